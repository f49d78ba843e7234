/- Trees: wrapped in keys; the program's. -/
import Derived.Test.YtbfcbfadfnaebaaTreeBack
import Derived.Test.YtbfcbfadfnaebaaTreeCopy
import Derived.Test.YtbfcbfadfnaebaaTreeRight
namespace Go.Proofs.Ytbfcbfadfnaebaa
open Go.ChangeShapes Go.WideShapes Go.ChangeAt Go.RowKit Go.Shelf
namespace Tr
open Sp Rw
attribute [local go_sem] Oper.semAt_some
open Classical in
/-- which error there is, wrapping it -/
noncomputable def wrapE (t : T) (p : List ByteArray) : Int := if (!rightB 5 t || badB p) = true then 1 else if 5 < p.length then 10 else if t.es = [] ∧ t.ks = [] then 0 else if 5 < levels t + p.length then 10 else 0
open Classical in
noncomputable def wrapR (t : T) (p : List ByteArray) : T := if wrapE t p = 0 ∧ ¬ (t.es = [] ∧ t.ks = []) then wrapT t p else none_
/-- a tree of new memory and an error are answered -/
def TreeErr (u : T) (x : Int) (w : World) (e : Ending) (w' : World) : Prop := ∃ Ae ne ce Ak nk ck, e = .returned (.tuple #[.agg #[.slice Ae ne ce, .slice Ak nk ck], .int .i64 x]) ∧ RdO w' (fun b => w.heap.size ≤ b) u ⟨Ae, ne, ce⟩ ⟨Ak, nk, ck⟩ ∧ Below w.heap.size w w'
set_option maxRecDepth 100000 in
set_option maxHeartbeats 4000000 in
theorem wrap_any (t : T) (Ae Ak : Option Addr) (ne nk ce ck : Nat) (l : List ByteArray) (A : Option Addr) (n c : Nat) (w : World) (hl9 : l.length = n) (hn9 : n ≤ 100000) (hrl : Rd w w.heap.size 1 A n c (strs l)) (hl : LenT reachBytes t) (hn : nodes t ≤ 100000) (hr : RdT w w.heap.size t ⟨Ae, ne, ce⟩ ⟨Ak, nk, ck⟩) :
    Calls Try.prog 25 #[.agg #[.slice Ae ne ce, .slice Ak nk ck], .slice A n c] w (TreeErr (wrapR t l) (wrapE t l) w) := by
  have hempty : (t.es = [] ∧ t.ks = []) ↔ (ne = 0 ∧ nk = 0) := by
    have := hr
    rw [← T.eta t] at this
    have := rd_lens this
    rw [← this.1, ← this.2, List.length_eq_zero_iff, List.length_eq_zero_iff]
  obtain ⟨u, hu⟩ : ∃ u, wrapR t l = u := ⟨_, rfl⟩
  obtain ⟨x, hx⟩ : ∃ x, wrapE t l = x := ⟨_, rfl⟩
  rw [hu, hx]
  unfold wrapR at hu
  rw [hx] at hu
  unfold wrapE at hx
  rw [hl9] at hx
  have HRT : ∀ W, Below w.heap.size w W → Hid (Calls Try.prog 15 #[.agg #[.slice Ae ne ce, .slice Ak nk ck]] W fun e w' => e = .returned (.bool (rightB 5 t)) ∧ Below W.heap.size W w') := fun W hW => rightT_any t Ae Ak ne nk ce ck W hl (RdT.more hW.size _ (RdT.below hr hW))
  have HCF : ∀ W, Below w.heap.size w W → Hid (Calls Try.prog 49 #[.slice A n c, .func (.func 50) #[] #[]] W fun e w' => e = .returned (.bool (badB l)) ∧ w' = W) := fun W hW => containsf_any l n A c W hl9 (by omega) ((hrl.below hW).more hW.size) _ rfl
  have HEM : ∀ W, Hid (Calls Try.prog 13 #[.agg #[.slice Ae ne ce, .slice Ak nk ck]] W fun e w' => e = .returned (.bool (decide (ne = 0 ∧ nk = 0))) ∧ Below W.heap.size W w') := fun W => empty_any Ae Ak ne nk ce ck W
  have HLV : ∀ W, Below w.heap.size w W → Hid (Calls Try.prog 52 #[.agg #[.slice Ae ne ce, .slice Ak nk ck]] W fun e w' => e = .returned (.int .i64 (levels t)) ∧ Below W.heap.size W w') := fun W hW => levels_any t Ae Ak ne nk ce ck W (by omega) (RdT.more hW.size _ (RdT.below hr hW))
  have HCO : ∀ W, Below w.heap.size w W → Hid (Calls Try.prog 46 #[.agg #[.slice Ae ne ce, .slice Ak nk ck]] W (CopyIs t ne nk W)) := fun W hW => copied_any t Ae Ak ne nk ce ck W hn (RdT.more hW.size _ (RdT.below hr hW))
  obtain ⟨g, hg⟩ : ∃ g, g = w.heap.size := ⟨_, rfl⟩
  have HK := Lib.hid (tree_box w Ae Ak ne nk ce ck)
  rw [← hg] at HK
  obtain ⟨W0, hW0⟩ : ∃ W, W = w.alloc (.cells #[.slice Ae ne ce, .slice Ak nk ck] 25) := ⟨_, rfl⟩
  rw [← hW0] at HK
  have HG := Lib.hid hg
  have HW0 := Lib.hid hW0
  have k0 := HK.out.c0
  have k1 := HK.out.c1
  clear hg hW0
  obtain ⟨q, hq⟩ : ∃ q, q = W0.heap.size := ⟨_, rfl⟩
  obtain ⟨W1, hW1⟩ : ∃ W, W = W0.alloc (.cells #[.slice none 0 0, .slice none 0 0] 25) := ⟨_, rfl⟩
  have hb1 : Below W0.heap.size W0 W1 := by rw [hW1]; exact Dt.box_below _ _ _
  have q0 : W1.cell? ⟨q, 0, none⟩ = some (.slice none 0 0) := by rw [hW1, hq]; go_simp
  have q1 : W1.cell? ⟨q, 1, none⟩ = some (.slice none 0 0) := by rw [hW1, hq]; go_simp
  have HFQ : Hid (Free q W1) := ⟨by rw [hW1, hq]; simp, fun j => by rw [hW1, hq]; go_simp⟩
  have HFG : Hid (Free g W1) := (show Free g W0 from ⟨World.block_lt_of_cell? W0 _ HK.out.c0, fun j => by rw [HW0.out, HG.out]; go_simp⟩).later hb1
  have HKB := Lib.hid (((HK.out.later hb1).cons_of q1).cons_of q0)
  have HQ : Hid (q = g + 1) := by unfold Hid; rw [hq, HW0.out, HG.out]; simp
  have hgW : g < W0.heap.size := World.block_lt_of_cell? W0 _ HK.out.c0
  have hgq : g ≠ q := by omega
  have hgq2 : ¬ q = g := by omega
  have hwg : w.heap.size ≤ g := by have := HG.out; omega
  have hwq : w.heap.size ≤ q := by omega
  have HW1 := Lib.hid hW1
  have HBq : Hid (Below w.heap.size w W1) := HKB.out.below
  clear hq hW1 hb1 q0 q1 k0 k1
  have HKc := HKB
  have k0 := HKc.out.c0
  have k1 := HKc.out.c1
  have k2 := HKc.out.c2
  have k3 := HKc.out.c3
  have m0 := HFQ.out.2 0
  have m1 := HFQ.out.2 1
  cases hz : rightB 5 t with
  | false =>
    rw [hz, Bool.not_false, Bool.true_or, if_pos rfl] at hx
    subst hx
    rw [if_neg (by simp)] at hu
    subst hu
    rw [hz] at HRT
    clear HCF HEM HLV HCO hempty hz hr hl hrl hl9
    go_enter Try.func25, Try.ntmps25
    go_wp2_with fail
    rw [← HG.out, ← HW0.out, ← HQ.out, ← HW1.out]
    refine (HRT _ HKc.out.below).out.mono ?_
    rintro e w2 ⟨rfl, hb⟩
    have HKc := Lib.hid (HKc.out.later hb)
    have HFQ := Lib.hid (HFQ.out.later hb)
    clear hb
    clear k0 k1 k2 k3 m0 m1
    have k0 := HKc.out.c0
    have k1 := HKc.out.c1
    have k2 := HKc.out.c2
    have k3 := HKc.out.c3
    have m0 := HFQ.out.2 0
    have m1 := HFQ.out.2 1
    obtain ⟨w9, hw9⟩ : ∃ W, W = (w2.setCell ⟨q, 0, none⟩ (.slice none 0 0)).setCell ⟨q, 1, none⟩ (.slice none 0 0) := ⟨_, rfl⟩
    have HB9 : Hid (Below w.heap.size w w9) := by unfold Hid; rw [hw9]; exact (HKc.out.below.setCell (p := ⟨q, 0, none⟩) hwq _).setCell (p := ⟨q, 1, none⟩) hwq _
    have j0 : w9.cell? ⟨q, 0, none⟩ = some (.slice none 0 0) := by rw [hw9]; go_simp
    have j1 : w9.cell? ⟨q, 1, none⟩ = some (.slice none 0 0) := by rw [hw9]; go_simp
    have HW9 := Lib.hid hw9
    clear hw9
    go_wp2_with fail
    rw [← HW9.out]
    refine bodyPost_ret (v := .tuple #[.agg #[.slice none 0 0, .slice none 0 0], .int .i64 1]) (by simp [results, Try.results25, go_sem, j0, j1]) rfl ⟨none, 0, 0, none, 0, 0, rfl, RdO.none _ _ _ _ _ _, HB9.out⟩
  | true =>
  cases hbd : badB l with
  | true =>
    rw [hz, hbd, Bool.or_true, if_pos rfl] at hx
    subst hx
    rw [if_neg (by simp)] at hu
    subst hu
    rw [hz] at HRT
    rw [hbd] at HCF
    clear HEM HLV HCO hempty hz hbd hr hl hrl hl9
    go_enter Try.func25, Try.ntmps25
    go_wp2_with fail
    rw [← HG.out, ← HW0.out, ← HQ.out, ← HW1.out]
    refine (HRT _ HKc.out.below).out.mono ?_
    rintro e w2 ⟨rfl, hb⟩
    have HKc := Lib.hid (HKc.out.later hb)
    have HFQ := Lib.hid (HFQ.out.later hb)
    clear hb
    clear k0 k1 k2 k3 m0 m1
    have k0 := HKc.out.c0
    have k1 := HKc.out.c1
    have k2 := HKc.out.c2
    have k3 := HKc.out.c3
    have m0 := HFQ.out.2 0
    have m1 := HFQ.out.2 1
    go_wp2_with fail
    refine (HCF _ HKc.out.below).out.mono ?_
    rintro e w3 ⟨rfl, rfl⟩
    obtain ⟨w9, hw9⟩ : ∃ W, W = (w3.setCell ⟨q, 0, none⟩ (.slice none 0 0)).setCell ⟨q, 1, none⟩ (.slice none 0 0) := ⟨_, rfl⟩
    have HB9 : Hid (Below w.heap.size w w9) := by unfold Hid; rw [hw9]; exact (HKc.out.below.setCell (p := ⟨q, 0, none⟩) hwq _).setCell (p := ⟨q, 1, none⟩) hwq _
    have j0 : w9.cell? ⟨q, 0, none⟩ = some (.slice none 0 0) := by rw [hw9]; go_simp
    have j1 : w9.cell? ⟨q, 1, none⟩ = some (.slice none 0 0) := by rw [hw9]; go_simp
    have HW9 := Lib.hid hw9
    clear hw9
    go_wp2_with fail
    rw [← HW9.out]
    refine bodyPost_ret (v := .tuple #[.agg #[.slice none 0 0, .slice none 0 0], .int .i64 1]) (by simp [results, Try.results25, go_sem, j0, j1]) rfl ⟨none, 0, 0, none, 0, 0, rfl, RdO.none _ _ _ _ _ _, HB9.out⟩
  | false =>
  rw [hz, hbd, if_neg (by simp)] at hx
  by_cases h5 : 5 < n
  · rw [if_pos h5] at hx
    subst hx
    rw [if_neg (by simp)] at hu
    subst hu
    rw [hz] at HRT
    rw [hbd] at HCF
    have f5 : decide ((5 : Int) < (n : Int)) = true := decide_eq_true (by omega)
    clear HEM HLV HCO hempty hz hbd hr hl hrl hl9
    go_enter Try.func25, Try.ntmps25
    go_wp2_with fail
    rw [← HG.out, ← HW0.out, ← HQ.out, ← HW1.out]
    refine (HRT _ HKc.out.below).out.mono ?_
    rintro e w2 ⟨rfl, hb⟩
    have HKc := Lib.hid (HKc.out.later hb)
    have HFQ := Lib.hid (HFQ.out.later hb)
    clear hb
    clear k0 k1 k2 k3 m0 m1
    have k0 := HKc.out.c0
    have k1 := HKc.out.c1
    have k2 := HKc.out.c2
    have k3 := HKc.out.c3
    have m0 := HFQ.out.2 0
    have m1 := HFQ.out.2 1
    go_wp2_with fail
    refine (HCF _ HKc.out.below).out.mono ?_
    rintro e w3 ⟨rfl, rfl⟩
    obtain ⟨w9, hw9⟩ : ∃ W, W = (w3.setCell ⟨q, 0, none⟩ (.slice none 0 0)).setCell ⟨q, 1, none⟩ (.slice none 0 0) := ⟨_, rfl⟩
    have HB9 : Hid (Below w.heap.size w w9) := by unfold Hid; rw [hw9]; exact (HKc.out.below.setCell (p := ⟨q, 0, none⟩) hwq _).setCell (p := ⟨q, 1, none⟩) hwq _
    have j0 : w9.cell? ⟨q, 0, none⟩ = some (.slice none 0 0) := by rw [hw9]; go_simp
    have j1 : w9.cell? ⟨q, 1, none⟩ = some (.slice none 0 0) := by rw [hw9]; go_simp
    have HW9 := Lib.hid hw9
    clear hw9
    go_wp2_with fail
    rw [← HW9.out]
    refine bodyPost_ret (v := .tuple #[.agg #[.slice none 0 0, .slice none 0 0], .int .i64 10]) (by simp [results, Try.results25, go_sem, j0, j1]) rfl ⟨none, 0, 0, none, 0, 0, rfl, RdO.none _ _ _ _ _ _, HB9.out⟩
  rw [if_neg h5] at hx
  have f5 : decide ((5 : Int) < (n : Int)) = false := decide_eq_false (by omega)
  by_cases he : t.es = [] ∧ t.ks = []
  · rw [if_pos he] at hx
    subst hx
    rw [if_neg (by intro h; exact h.2 he)] at hu
    subst hu
    rw [hz] at HRT
    rw [hbd] at HCF
    rw [decide_eq_true (hempty.1 he)] at HEM
    clear HLV HCO hempty hz hbd hr hl hrl hl9 he h5
    go_enter Try.func25, Try.ntmps25
    go_wp2_with fail
    rw [← HG.out, ← HW0.out, ← HQ.out, ← HW1.out]
    refine (HRT _ HKc.out.below).out.mono ?_
    rintro e w2 ⟨rfl, hb⟩
    have HKc := Lib.hid (HKc.out.later hb)
    have HFQ := Lib.hid (HFQ.out.later hb)
    clear hb
    clear k0 k1 k2 k3 m0 m1
    have k0 := HKc.out.c0
    have k1 := HKc.out.c1
    have k2 := HKc.out.c2
    have k3 := HKc.out.c3
    have m0 := HFQ.out.2 0
    have m1 := HFQ.out.2 1
    go_wp2_with fail
    refine (HCF _ HKc.out.below).out.mono ?_
    rintro e w3 ⟨rfl, rfl⟩
    go_wp2_with fail
    refine (HEM _).out.mono ?_
    rintro e w4 ⟨rfl, hb⟩
    have HKc := Lib.hid (HKc.out.later hb)
    have HFQ := Lib.hid (HFQ.out.later hb)
    clear hb
    clear k0 k1 k2 k3 m0 m1
    have k0 := HKc.out.c0
    have k1 := HKc.out.c1
    have k2 := HKc.out.c2
    have k3 := HKc.out.c3
    have m0 := HFQ.out.2 0
    have m1 := HFQ.out.2 1
    obtain ⟨w9, hw9⟩ : ∃ W, W = (w4.setCell ⟨q, 0, none⟩ (.slice none 0 0)).setCell ⟨q, 1, none⟩ (.slice none 0 0) := ⟨_, rfl⟩
    have HB9 : Hid (Below w.heap.size w w9) := by unfold Hid; rw [hw9]; exact (HKc.out.below.setCell (p := ⟨q, 0, none⟩) hwq _).setCell (p := ⟨q, 1, none⟩) hwq _
    have j0 : w9.cell? ⟨q, 0, none⟩ = some (.slice none 0 0) := by rw [hw9]; go_simp
    have j1 : w9.cell? ⟨q, 1, none⟩ = some (.slice none 0 0) := by rw [hw9]; go_simp
    have HW9 := Lib.hid hw9
    clear hw9
    go_wp2_with fail
    rw [← HW9.out]
    refine bodyPost_ret (v := .tuple #[.agg #[.slice none 0 0, .slice none 0 0], .int .i64 0]) (by simp [results, Try.results25, go_sem, j0, j1]) rfl ⟨none, 0, 0, none, 0, 0, rfl, RdO.none _ _ _ _ _ _, HB9.out⟩
  rw [if_neg he] at hx
  rw [decide_eq_false (fun h => he (hempty.2 h))] at HEM
  have hlv := levels_le (rightB_iff.1 hz)
  obtain ⟨lv, hlve⟩ : ∃ z, levels t = z := ⟨_, rfl⟩
  rw [hlve] at hx HLV hlv
  have hsum : IntKind.i64.wrap ((lv : Int) + (n : Int)) = (lv : Int) + n := by rw [IntKind.wrap_i64]; omega
  by_cases h6 : 5 < lv + n
  · rw [if_pos h6] at hx
    subst hx
    rw [if_neg (by simp)] at hu
    subst hu
    rw [hz] at HRT
    rw [hbd] at HCF
    have f6 : decide ((5 : Int) < (lv : Int) + (n : Int)) = true := decide_eq_true (by omega)
    clear HCO hempty hz hbd hr hl hrl hl9 he h5 hlv hlve h6
    go_enter Try.func25, Try.ntmps25
    go_wp2_with fail
    rw [← HG.out, ← HW0.out, ← HQ.out, ← HW1.out]
    refine (HRT _ HKc.out.below).out.mono ?_
    rintro e w2 ⟨rfl, hb⟩
    have HKc := Lib.hid (HKc.out.later hb)
    have HFQ := Lib.hid (HFQ.out.later hb)
    clear hb
    clear k0 k1 k2 k3 m0 m1
    have k0 := HKc.out.c0
    have k1 := HKc.out.c1
    have k2 := HKc.out.c2
    have k3 := HKc.out.c3
    have m0 := HFQ.out.2 0
    have m1 := HFQ.out.2 1
    go_wp2_with fail
    refine (HCF _ HKc.out.below).out.mono ?_
    rintro e w3 ⟨rfl, rfl⟩
    go_wp2_with fail
    refine (HEM _).out.mono ?_
    rintro e w4 ⟨rfl, hb⟩
    have HKc := Lib.hid (HKc.out.later hb)
    have HFQ := Lib.hid (HFQ.out.later hb)
    clear hb
    clear k0 k1 k2 k3 m0 m1
    have k0 := HKc.out.c0
    have k1 := HKc.out.c1
    have k2 := HKc.out.c2
    have k3 := HKc.out.c3
    have m0 := HFQ.out.2 0
    have m1 := HFQ.out.2 1
    go_wp2_with fail
    refine (HLV _ HKc.out.below).out.mono ?_
    rintro e w5 ⟨rfl, hb⟩
    have HKc := Lib.hid (HKc.out.later hb)
    have HFQ := Lib.hid (HFQ.out.later hb)
    clear hb
    clear k0 k1 k2 k3 m0 m1
    have k0 := HKc.out.c0
    have k1 := HKc.out.c1
    have k2 := HKc.out.c2
    have k3 := HKc.out.c3
    have m0 := HFQ.out.2 0
    have m1 := HFQ.out.2 1
    obtain ⟨w9, hw9⟩ : ∃ W, W = (w5.setCell ⟨q, 0, none⟩ (.slice none 0 0)).setCell ⟨q, 1, none⟩ (.slice none 0 0) := ⟨_, rfl⟩
    have HB9 : Hid (Below w.heap.size w w9) := by unfold Hid; rw [hw9]; exact (HKc.out.below.setCell (p := ⟨q, 0, none⟩) hwq _).setCell (p := ⟨q, 1, none⟩) hwq _
    have j0 : w9.cell? ⟨q, 0, none⟩ = some (.slice none 0 0) := by rw [hw9]; go_simp
    have j1 : w9.cell? ⟨q, 1, none⟩ = some (.slice none 0 0) := by rw [hw9]; go_simp
    have HW9 := Lib.hid hw9
    clear hw9
    go_wp2_with fail
    rw [← HW9.out]
    refine bodyPost_ret (v := .tuple #[.agg #[.slice none 0 0, .slice none 0 0], .int .i64 10]) (by simp [results, Try.results25, go_sem, j0, j1]) rfl ⟨none, 0, 0, none, 0, 0, rfl, RdO.none _ _ _ _ _ _, HB9.out⟩
  rw [if_neg h6] at hx
  subst hx
  rw [if_pos ⟨rfl, he⟩] at hu
  rw [hz] at HRT
  rw [hbd] at HCF
  have f6 : decide ((5 : Int) < (lv : Int) + (n : Int)) = false := decide_eq_false (by omega)
  have HU := Lib.hid hu
  have HL9 := Lib.hid hl9
  have HRL := Lib.hid hrl
  clear hempty hz hbd hr hl hrl hl9 he h5 hlv hlve h6 hu
  refine (callsIn_wide (n := 6)).1 ?_
  refine callsIn_of_wp_marks Try.func25 rfl trivial ?_ rfl
  simp only [Try.ntmps25, List.size_toArray, List.length_cons, List.length_nil, Nat.reduceAdd, Nat.reduceSub, Array.replicate_succ, Array.replicate_zero, List.push_toArray, List.append_toArray, List.nil_append, List.cons_append]
  have h15 : Fence.wide.fn 15 := trivial
  have h49 : Fence.wide.fn 49 := trivial
  have h13 : Fence.wide.fn 13 := trivial
  have h52 : Fence.wide.fn 52 := trivial
  have h46 : Fence.wide.fn 46 := trivial
  have h53 : Fence.wide.fn 53 := trivial
  gi_wp2_with (first
    | (gi_at_call 15
       rw [← HG.out, ← HW0.out, ← HQ.out, ← HW1.out]
       refine (callsIn_wide.2 (HRT _ HKc.out.below).out).mono ?_
       rintro e w2 ⟨rfl, hb⟩
       have HKc := Lib.hid (HKc.out.later hb)
       have HFQ := Lib.hid (HFQ.out.later hb)
       clear hb k0 k1 k2 k3 m0 m1
       have k2 := HKc.out.c2
       have k3 := HKc.out.c3)
    | (gi_at_call 49
       refine (callsIn_wide.2 (HCF _ HKc.out.below).out).mono ?_
       rintro e w3 ⟨rfl, rfl⟩)
    | (gi_at_call 13
       refine (callsIn_wide.2 (HEM _).out).mono ?_
       rintro e w4 ⟨rfl, hb⟩
       have HKc := Lib.hid (HKc.out.later hb)
       have HFQ := Lib.hid (HFQ.out.later hb)
       clear hb k2 k3
       have k2 := HKc.out.c2
       have k3 := HKc.out.c3)
    | (gi_at_call 52
       refine (callsIn_wide.2 (HLV _ HKc.out.below).out).mono ?_
       rintro e w5 ⟨rfl, hb⟩
       have HKc := Lib.hid (HKc.out.later hb)
       have HFQ := Lib.hid (HFQ.out.later hb)
       clear hb k2 k3
       have k2 := HKc.out.c2
       have k3 := HKc.out.c3)
    | (gi_at_call 46
       refine (callsIn_wide.2 (HCO _ HKc.out.below).out).mono ?_
       rintro e w6 ⟨Ae6, ce6, Ak6, ck6, rfl, hro, hb⟩
       have HRO := Lib.hid hro
       have HB5 := HKc
       have HKc := Lib.hid (HKc.out.later hb)
       have HFQ := Lib.hid (HFQ.out.later hb)
       have hb6s := hb.size
       clear hb k2 k3 hro)
    | (gi_at_call 53
       refine (callsIn_wide.2 (backward_any A n c _)).mono ?_
       rintro e w7 ⟨rfl, rfl⟩))
  clear HRT HCF HEM HLV HCO f5 f6 hsum h15 h49 h13 h52 h46 h53
  have hqw5 : q < _ := World.block_lt_of_cell? _ _ HB5.out.c0
  have hw5 := HB5.out.below.size
  have hbs6 : _ ≤ w6.heap.size := hb6s
  obtain ⟨B6, hB6⟩ : ∃ B, B = w6.heap.size := ⟨_, rfl⟩
  obtain ⟨W8, hW8⟩ : ∃ W, W = (w6.alloc (.cells #[.slice Ae6 ne ce6, .slice Ak6 nk ck6] 25)).alloc (.cells #[.slice A n c] 39) := ⟨_, rfl⟩
  have hb8 : Below w6.heap.size w6 W8 := by rw [hW8]; exact ((Below.refl _ w6).alloc (Nat.le_refl _) _).alloc (by simp) _
  have hs8 : W8.heap.size = B6 + 2 := by rw [hW8, hB6]; simp
  have i0 : W8.cell? ⟨B6, 0, none⟩ = some (.slice Ae6 ne ce6) := by rw [hW8, hB6]; go_simp
  have i1 : W8.cell? ⟨B6, 1, none⟩ = some (.slice Ak6 nk ck6) := by rw [hW8, hB6]; go_simp
  have i2 : W8.cell? ⟨B6 + 1, 0, none⟩ = some (.slice A n c) := by rw [hW8, hB6]; go_simp
  have m60 : W8.frozen? ⟨B6, 0, none⟩ = false := by rw [hW8, hB6]; go_simp
  have m61 : W8.frozen? ⟨B6, 1, none⟩ = false := by rw [hW8, hB6]; go_simp
  have HK8 := HKc.out.later hb8
  have HF8 := HFQ.out.later hb8
  have hT8 : RdO W8 (fun b => w.heap.size ≤ b ∧ b ≠ q ∧ b ≠ B6) t ⟨Ae6, ne, ce6⟩ ⟨Ak6, nk, ck6⟩ := RdO.later (RdO.mono (fun b hb hlt => ⟨by omega, by omega, by omega⟩) _ HRO.out) hb8
  have hwB6 : w.heap.size ≤ B6 := by omega
  have hqB6 : q ≠ B6 := by omega
  have hqB6' : ¬ B6 = q := by omega
  have hTX : TextsAt w.heap.size W8 A n (fun j => l[j]?.getD ByteArray.empty) := (TextsAt.of_rd HRL.out).below HK8.below
  rw [← hB6, ← hW8]
  have I0 : (∃ (Ax : Option Addr) (nx cx : Nat) (Bx : Option Addr) (mx dx : Nat), W8.cell? ⟨B6, 0, none⟩ = some (.slice Ax nx cx) ∧ W8.cell? ⟨B6, 1, none⟩ = some (.slice Bx mx dx) ∧ W8.frozen? ⟨B6, 0, none⟩ = false ∧ W8.frozen? ⟨B6, 1, none⟩ = false ∧ RdO W8 (fun b => w.heap.size ≤ b ∧ b ≠ q ∧ b ≠ B6) (wrapT t (([] : List (Nat × ByteArray)).map fun x => x.2).reverse) ⟨Ax, nx, cx⟩ ⟨Bx, mx, dx⟩) ∧ W8.cell? ⟨B6 + 1, 0, none⟩ = some (.slice A n c) ∧ W8.cell? ⟨q, 0, none⟩ = some (.slice none 0 0) ∧ W8.cell? ⟨q, 1, none⟩ = some (.slice none 0 0) ∧ W8.frozen? ⟨q, 0, none⟩ = false ∧ W8.frozen? ⟨q, 1, none⟩ = false :=
    ⟨⟨Ae6, ne, ce6, Ak6, nk, ck6, i0, i1, m60, m61, hT8⟩, i2, HK8.c0, HK8.c1, HF8.2 0, HF8.2 1⟩
  have hHU := HU.out
  clear HU
  clear hW8 hB6 HRO hqw5 hw5 hbs6 hb6s
  refine' wpIn_rangeFunc_ownG (F := Fence.wide) (n := 6) rfl (by omega) (gf := 71) (lb := #[.pointer (some ⟨B6 + 1, 0, none⟩)]) rfl trivial (enters_of Try.func71 (by kernel_rfl) rfl)
    (backward_stops Fence.wide 5 trivial rfl (by omega) (B6 + 1) w.heap.size n c A _ (by omega) W8 (by omega) (by omega) i2 hTX) kpB_t (kpB_b (by omega) (by omega)) (Below.refl _ _) (fun _ => rfl)
    (fun pre W => ((∃ (Ax : Option Addr) (nx cx : Nat) (Bx : Option Addr) (mx dx : Nat), W.cell? ⟨B6, 0, none⟩ = some (.slice Ax nx cx) ∧ W.cell? ⟨B6, 1, none⟩ = some (.slice Bx mx dx) ∧ W.frozen? ⟨B6, 0, none⟩ = false ∧ W.frozen? ⟨B6, 1, none⟩ = false ∧ RdO W (fun b => w.heap.size ≤ b ∧ b ≠ q ∧ b ≠ B6) (wrapT t ((pre : List (Nat × ByteArray)).map fun x => x.2).reverse) ⟨Ax, nx, cx⟩ ⟨Bx, mx, dx⟩) ∧ W.cell? ⟨B6 + 1, 0, none⟩ = some (.slice A n c) ∧ W.cell? ⟨q, 0, none⟩ = some (.slice none 0 0) ∧ W.cell? ⟨q, 1, none⟩ = some (.slice none 0 0) ∧ W.frozen? ⟨q, 0, none⟩ = false ∧ W.frozen? ⟨q, 1, none⟩ = false) ∧ Below w.heap.size w W)
    (fun _ _ _ => False)
    (OwnFrom.and (Own.from (fun s A' B' row hs hg hr => by
      obtain ⟨⟨Ax, nx, cx, Bx, mx, dx, h1, h2, h3, h4, h5⟩, h6, h7, h8, h9, h10⟩ := hs
      exact ⟨⟨Ax, nx, cx, Bx, mx, dx, cell_kept h1 hg hr, cell_kept h2 hg hr, (frozen_kept h1 hg hr).trans h3, (frozen_kept h2 hg hr).trans h4, RdO.kept hg hr _ h5⟩, cell_kept h6 hg hr, cell_kept h7 hg hr, cell_kept h8 hg hr, (frozen_kept h7 hg hr).trans h9, (frozen_kept h8 hg hr).trans h10⟩) _) (ownFrom_below (Nat.le_refl _) (by omega)))
    (fun _ _ _ _ _ hs _ _ => hs)
    ⟨I0, HK8.below⟩ _ ?assign ?body ?done ?stop
  case assign =>
    intro l' x W K hK
    gi_wp2
    exact hK
  case body =>
    rintro l' pre x W ⟨⟨⟨Ax, nx, cx, Bx, mx, dx, h1, h2, h3, h4, h5⟩, h6, h7, h8, h9, h10⟩, hB⟩ hlt
    have hb6 : B6 < W.heap.size := World.block_lt_of_cell? W _ h1
    have hb7 : B6 + 1 < W.heap.size := World.block_lt_of_cell? W _ h6
    have hq7 : q < W.heap.size := World.block_lt_of_cell? W _ h7
    obtain ⟨W2, hW2⟩ : ∃ W2, W2 = ((W.alloc (.cells #[.string x.2, .slice Ax nx cx, .slice Bx mx dx] 56)).setCell ⟨B6, 0, none⟩ (.slice none 0 0)).setCell ⟨B6, 1, none⟩ (.slice (some ⟨W.heap.size, 0, none⟩) 1 1) := ⟨_, rfl⟩
    have hko : KeepsOthers W W2 := by rw [hW2]; exact ((KeepsOthers.alloc _ _).trans (KeepsOthers.setCell _ _ _)).trans (KeepsOthers.setCell _ _ _)
    have hbl : Below w.heap.size W W2 := by rw [hW2]; exact (((Below.refl w.heap.size W).alloc hB.size _).setCell (p := ⟨B6, 0, none⟩) hwB6 _).setCell (p := ⟨B6, 1, none⟩) hwB6 _
    have e6 : W2.cell? ⟨B6 + 1, 0, none⟩ = some (.slice A n c) := by rw [hW2]; go_simp
    have e1 : W2.cell? ⟨B6, 0, none⟩ = some (.slice none 0 0) := by rw [hW2]; go_simp
    have e2 : W2.cell? ⟨B6, 1, none⟩ = some (.slice (some ⟨W.heap.size, 0, none⟩) 1 1) := by rw [hW2]; go_simp
    have e3 : W2.frozen? ⟨B6, 0, none⟩ = false := by rw [hW2]; go_simp
    have e4 : W2.frozen? ⟨B6, 1, none⟩ = false := by rw [hW2]; go_simp
    have e7 : W2.cell? ⟨q, 0, none⟩ = some (.slice none 0 0) := by rw [hW2]; go_simp
    have e8 : W2.cell? ⟨q, 1, none⟩ = some (.slice none 0 0) := by rw [hW2]; go_simp
    have e9 : W2.frozen? ⟨q, 0, none⟩ = false := by rw [hW2]; go_simp
    have e10 : W2.frozen? ⟨q, 1, none⟩ = false := by rw [hW2]; go_simp
    have e5 : RdO W2 (fun b => w.heap.size ≤ b ∧ b ≠ q ∧ b ≠ B6) (wrapT t ((pre ++ [x]).map fun x => x.2).reverse) ⟨none, 0, 0⟩ ⟨some ⟨W.heap.size, 0, none⟩, 1, 1⟩ := by
      have h := RdO.one h5 (show w.heap.size ≤ W.heap.size ∧ W.heap.size ≠ q ∧ W.heap.size ≠ B6 from ⟨hB.size, by omega, by omega⟩) x.2 56
      have e : ((pre ++ [x]).map fun x => x.2).reverse = x.2 :: (pre.map fun x => x.2).reverse := by simp
      rw [e, hW2]
      exact RdO.keep (by simp [World.setCell]) (fun b hb _ => (Below.heap_setCell _ ⟨B6, 1, none⟩ _ b (fun e => hb.2.2 e)).trans (Below.heap_setCell _ ⟨B6, 0, none⟩ _ b (fun e => hb.2.2 e))) _ h
    have HE := Lib.hid (show _ ∧ _ from ⟨And.intro hko hbl, (⟨⟨none, 0, 0, some ⟨W.heap.size, 0, none⟩, 1, 1, e1, e2, e3, e4, e5⟩, e6, e7, e8, e9, e10⟩ : (∃ (Ax : Option Addr) (nx cx : Nat) (Bx : Option Addr) (mx dx : Nat), W2.cell? ⟨B6, 0, none⟩ = some (.slice Ax nx cx) ∧ W2.cell? ⟨B6, 1, none⟩ = some (.slice Bx mx dx) ∧ W2.frozen? ⟨B6, 0, none⟩ = false ∧ W2.frozen? ⟨B6, 1, none⟩ = false ∧ RdO W2 (fun b => w.heap.size ≤ b ∧ b ≠ q ∧ b ≠ B6) (wrapT t ((pre ++ [x]).map fun x => x.2).reverse) ⟨Ax, nx, cx⟩ ⟨Bx, mx, dx⟩) ∧ W2.cell? ⟨B6 + 1, 0, none⟩ = some (.slice A n c) ∧ W2.cell? ⟨q, 0, none⟩ = some (.slice none 0 0) ∧ W2.cell? ⟨q, 1, none⟩ = some (.slice none 0 0) ∧ W2.frozen? ⟨q, 0, none⟩ = false ∧ W2.frozen? ⟨q, 1, none⟩ = false)⟩)
    have HKP2 : Hid (W2.cell? ⟨B6 + 1, 0, none⟩ = W.cell? ⟨B6 + 1, 0, none⟩) := e6.trans h6.symm
    have HB2 := Lib.hid (hB.trans hbl)
    have hW2' : W2 = ((W.setCell ⟨B6, 0, none⟩ (.slice none 0 0)).setCell ⟨B6, 1, none⟩ (.slice (some ⟨W.heap.size, 0, none⟩) 1 1)).alloc (.cells #[.string x.2, .slice Ax nx cx, .slice Bx mx dx] 56) := by rw [hW2]; go_simp
    have HW2 := Lib.hid hW2'
    clear hW2'
    clear e1 e2 e3 e4 e5 e6 e7 e8 e9 e10 hko hbl hW2 I0 i0 i1 i2 m60 m61 hT8 hHU hTX
    gi_wp2
    rw [← HW2.out]
    exact ⟨HE.out.1.1.from _, ⟨HE.out.1.2, HKP2.out⟩, HE.out.2, HB2.out⟩
  case done =>
    rintro D ys W hD rfl ⟨⟨⟨Ax, nx, cx, Bx, mx, dx, h1, h2, h3, h4, h5⟩, h6, h7, h8, h9, h10⟩, hB⟩ hK
    rw [back_all l HL9.out, hHU] at h5
    have hb6 : B6 < W.heap.size := World.block_lt_of_cell? W _ h1
    obtain ⟨W9, hW9⟩ : ∃ W9, W9 = (W.setCell ⟨q, 0, none⟩ (.slice Ax nx cx)).setCell ⟨q, 1, none⟩ (.slice Bx mx dx) := ⟨_, rfl⟩
    have hK9 : W9.heap[D]? = some (.deferred (some [])) := by rw [hW9]; exact ((KeepsOthers.setCell W ⟨q, 0, none⟩ (.slice Ax nx cx)).trans (KeepsOthers.setCell _ ⟨q, 1, none⟩ (.slice Bx mx dx))).same D _ hK rfl
    have j0 : W9.cell? ⟨q, 0, none⟩ = some (.slice Ax nx cx) := by rw [hW9]; go_simp
    have j1 : W9.cell? ⟨q, 1, none⟩ = some (.slice Bx mx dx) := by rw [hW9]; go_simp
    have h59 : RdO W9 (fun b => w.heap.size ≤ b ∧ b ≠ q ∧ b ≠ B6) u ⟨Ax, nx, cx⟩ ⟨Bx, mx, dx⟩ := by
      rw [hW9]
      exact RdO.keep (by simp [World.setCell]) (fun b hb _ => (Below.heap_setCell _ ⟨q, 1, none⟩ _ b (fun e => hb.2.1 e)).trans (Below.heap_setCell _ ⟨q, 0, none⟩ _ b (fun e => hb.2.1 e))) _ h5
    have hB9 : Below w.heap.size w W9 := by rw [hW9]; exact (hB.setCell (p := ⟨q, 0, none⟩) hwq _).setCell (p := ⟨q, 1, none⟩) hwq _
    have hD2 : w.heap.size ≤ D := by omega
    have H5 := Lib.hid h59
    have HB9 := Lib.hid hB9
    have HW9 := Lib.hid hW9
    have HK9 := Lib.hid hK9
    have HJ0 := Lib.hid j0
    have HJ1 := Lib.hid j1
    clear h5 h59 hB hB9 hW9 hK9 j0 j1 I0 i0 i1 i2 m60 m61 hT8 hHU hTX
    gi_wp2
    rw [← HW9.out]
    refine ⟨by simp, .inl ⟨_, _, rfl, run_takeDeferred HK9.out, ?_⟩⟩
    have hg := grownBy_putObj' W9 D (.deferred none)
    have hr : ∀ r, some D = some r → ∃ o : Obj, W9.heap[r]? = some o ∧ o.isCells = false := fun r e => by cases e; exact ⟨_, HK9.out, rfl⟩
    have hc0 := cell_kept HJ0.out hg hr
    have hc1 := cell_kept HJ1.out hg hr
    refine ⟨.tuple #[.agg #[.slice Ax nx cx, .slice Bx mx dx], .int .i64 0], by simp [results, Try.f25, go_sem, hc0, hc1], Ax, nx, cx, Bx, mx, dx, rfl, RdO.mono (fun b hb _ => hb.1) _ (RdO.kept hg hr _ H5.out), HB9.out.trans (belowK_b (w := w) (Nat.le_refl _) W9 D _ _ hD2 HK9.out rfl rfl)⟩
  case stop =>
    rintro D c' pre W _ _ h _
    exact h.elim
end Tr
end Go.Proofs.Ytbfcbfadfnaebaa
