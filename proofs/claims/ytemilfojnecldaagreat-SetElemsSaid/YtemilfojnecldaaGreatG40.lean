/- Texts of the lower layers, and of layer 9, put together. -/
import Derived.Test.YtemilfojnecldaaGreatCtxOf
import Derived.Test.YtemilfojnecldaaGreatG20
import Derived.Test.YtemilfojnecldaaGreatG00
import Derived.Laws.IdiomArrays
import Derived.Deep.Strs
import Derived.Test.YtemilfojnecldaaGreatTreeBuild
namespace Go.Proofs.YtemilfojnecldaaGreat
open Go.ChangeShapes Go.WideShapes Go.ChangeAt Go.RowKit
namespace Cx
open Sp Rw
set_option maxRecDepth 100000 in
set_option maxHeartbeats 2000000 in
theorem refofC_own (l : List (Int × Int)) (n : Nat) (A : Option Addr) (c : Nat) (w : World) (hl : l.length = n) (hn : n ≤ 1000) (hr : Rd w w.heap.size 2 A n c (l.flatMap dotC)) (hg : goodD l) (u : List S3) (hu : OfC l u) (q : Nat) (hq : u.length = q) (hq8 : q ≤ 800000) :
    Calls Tryz.prog 74 #[.slice A n c] w fun e w' => ∃ A' c', e = .returned (.slice A' q c') ∧ Own w' w.heap.size 98 3 A' q c' (spsC u) ∧ Below w.heap.size w w' := by
  have HUP : Hid (pre (fun d : Nat => part u d) 4 = u) := by
    unfold Hid
    rw [pre_four]
    refine ext_part (rise_glue _) hu.right.rise fun d hd => ?_
    rw [part_glue _ hd]
    have e : ((d.toNat : Nat) : Int) = d := by have := hd.1; omega
    rw [e]
  have HUB : Hid (∀ d : Nat, d < 4 → ∀ x, SetIs (nums l d) x → x = part u d) := fun d hd x hx =>
    ext hx.1 (hu.right.part d (by unfold Cen; omega)) fun m => by
      have h1 := hx.2 m
      have h2 := hu.has d m (by unfold Cen; omega)
      unfold hasC at h2
      rw [← nums_mem] at h2
      cases e1 : hasB x m <;> cases e2 : hasB (part u d) m <;> simp_all
  have HUL : Hid (∀ d : Nat, d ≤ 4 → (pre (fun d : Nat => part u d) d).length ≤ q) := by
    have h4 : (pre (fun d : Nat => part u d) 4).length = q := by rw [HUP.out, hq]
    intro d hd
    have hmono : ∀ i j : Nat, i ≤ j → (pre (fun d : Nat => part u d) i).length ≤ (pre (fun d : Nat => part u d) j).length := by
      intro i j hij
      induction j with
      | zero => obtain rfl : i = 0 := by omega
                exact Nat.le_refl _
      | succ j ih =>
        rcases (by omega : i ≤ j ∨ i = j + 1) with h | rfl
        · have := ih h
          simp only [pre, List.length_append]
          omega
        · exact Nat.le_refl _
    have := hmono d 4 hd
    omega
  have HR := Lib.hid hr
  have HL := Lib.hid hl
  have HGD := Lib.hid hg
  have HQ := Lib.hid hq
  clear hr hl hg hq hu
  go_enter Tryz.func74, Tryz.ntmps74
  go_wp2
  go_loopw [3, 7] (fun v i wr => ∃ (d m : Nat) (A' : Option Addr) (c' : Nat), d ≤ 4 ∧ v = .slice A' m c' ∧ i = .int .i64 d ∧ Hid ((pre (fun d : Nat => part u d) d).length = m) ∧ Hid (Own wr w.heap.size 98 3 A' m c' (spsC (pre (fun d : Nat => part u d) d))) ∧ Hid (Below w.heap.size w wr)) (fun _ i _ => 4 - (intOf i).toNat)
  case atStart => exact ⟨0, 0, none, 0, by omega, rfl, rfl, rfl, ⟨World.ownsRow_nil _ _ _ _, by simp [pre, spsC]⟩, Below.refl _ _⟩
  case round =>
    obtain ⟨d, m1, A', c', hd, rfl, rfl, HM, HO, HB⟩ := hrel
    by_cases hd4 : d < 4
    · obtain ⟨W0, hW0⟩ : ∃ W0, W0 = wr := ⟨_, rfl⟩
      rw [← hW0] at HO HB
      have HW0 := Lib.hid hW0
      have HQ4 : Hid (∀ x : Nat, (part u d).length = x → m1 + x ≤ 800000) := fun x hx => by
        have := HUL.out (d + 1) (by omega)
        simp only [pre, List.length_append, Cx.spans_len] at this
        have e1 := HM.out
        omega
      clear hW0
      go_wp2
      go_loopw [5, 12] (fun v i wr2 => ∃ (k m2 : Nat) (A2 : Option Addr) (c2 : Nat), k ≤ n ∧ v = .slice A2 m2 c2 ∧ i = .int .i64 k ∧ Hid ((nums (l.take k) d).length = m2) ∧ Hid (Own wr2 W0.heap.size 2 1 A2 m2 c2 (intsC (nums (l.take k) d))) ∧ Hid (Below W0.heap.size W0 wr2)) (fun _ i _ => n - (intOf i).toNat)
      case atStart => exact ⟨0, 0, none, 0, by omega, rfl, rfl, rfl, ⟨World.ownsRow_nil _ _ _ _, by simp [nums, intsC]⟩, (by unfold Hid; rw [HW0.out]; exact Below.refl _ _)⟩
      case round =>
        clear HW0
        obtain ⟨k, m2, A2, c2, hk, rfl, rfl, HM2, HO2, HB2⟩ := hrel
        have HBW : Hid (Below w.heap.size w wr) := HB.out.trans (HB2.out.mono HB.out.size)
        by_cases hlt : k < n
        · have hkl : k < l.length := by rw [HL.out]; exact hlt
          obtain ⟨b1, o, rfl, hbl, hc⟩ := rd_dot HR.out hlt
          obtain ⟨q0, q1⟩ := hc k hkl
          obtain ⟨p, hp⟩ : ∃ p, p = l[k] := ⟨_, rfl⟩
          have htk := nums_take hkl hp (d : Int)
          rw [← hp] at q0 q1
          obtain ⟨dc, y⟩ := p
          have q0 := (HBW.out.cell (p := ⟨b1, o + k * 2, none⟩) hbl).trans q0
          have q1 := (HBW.out.cell (p := ⟨b1, o + k * 2 + 1, none⟩) hbl).trans q1
          dsimp only at q0 q1 htk
          clear hc hp
          by_cases he : dc = (d : Int)
          · have f1 : (dc == (d : Int)) = true := by simpa using he
            rw [if_pos he] at htk
            have hml : m2 ≤ 1000 := by rw [← HM2.out]; exact Nat.le_trans (nums_len _ _) (by rw [List.length_take]; omega)
            obtain ⟨v3, w3, hrun, ho3, hb3⟩ := run_push Tryz.underlying121 infoI rfl (by omega) (by omega) wr W0.heap.size wr.heap.size rfl HB2.out.size _ m2 _ HO2.out.row [.int .i64 y] 1 rfl (by intro u hu; simp at hu; rcases hu with rfl; rfl) (by omega)
            have e2 : intsC (nums (l.take k) d) ++ [.int .i64 y] = intsC (nums (l.take (k + 1)) d) := by rw [htk, intsC_append]; rfl
            rw [e2] at ho3
            obtain ⟨A3, c3, rfl, ho4⟩ := Own.of_row ho3 (intsC_one _)
            have Hrun := Lib.hid hrun
            have HO3 := Lib.hid ho4
            have HM3 : Hid ((nums (l.take (k + 1)) d).length = m2 + 1) := by unfold Hid; rw [htk, List.length_append, HM2.out]; rfl
            have HB3 := Lib.hid (HB2.out.trans hb3)
            clear hrun ho3 ho4 hb3 htk e2 HO2 HM2 hml
            go_wp2_with (at_builtin; refine Lib.wpList_append_run _ rfl _ _ _ _ rfl _ _ rfl rfl _ _ Hrun.out ?_)
            exact ⟨⟨.slice A3 (m2 + 1) c3, _, .int .i64 ((k : Int) + 1), ⟨k + 1, by omega, m2 + 1, A3, c3, rfl, by go_num, HM3.out, HO3.out⟩, rfl, rfl, rfl⟩, by simp [intOf]; omega⟩
          · have f1 : (dc == (d : Int)) = false := by simpa using he
            rw [if_neg he] at htk
            rw [← htk] at HM2 HO2
            clear htk
            go_wp2
            go_roundw
            case rel => exact ⟨k + 1, m2, A2, c2, by omega, rfl, by go_num, HM2.out, HO2.out, HB2.out⟩
            case measure => simp [intOf]; omega
        · obtain rfl : k = n := by omega
          have hall : l.take k = l := List.take_of_length_le (by rw [HL.out]; omega)
          rw [hall] at HO2 HM2
          have HNL : Hid ((nums l d).length ≤ 1000) := by unfold Hid; have := nums_len l d; have := HL.out; omega
          have HC := Lib.hid (refof_any (nums l d) m2 A2 c2 wr HM2.out (by have := HM2.out; have := HNL.out; omega) HO2.out.rd (fun x hx => by have := (good_num (HGD.out _ (nums_mem.1 hx))).2; exact this))
          have HC' : Hid (Calls Tryz.prog 95 #[.slice A2 m2 c2] wr fun e w' => ∃ A' q' c', e = .returned (.slice A' q' c') ∧ Hid ((part u d).length = q') ∧ Hid (Rd w' w'.heap.size 2 A' q' c' (runsC (part u d))) ∧ Below wr.heap.size wr w') := by
            refine HC.out.mono ?_
            rintro e w' ⟨x, A', c', rfl, h1, ho, hb⟩
            have := HUB.out d hd4 x h1
            subst this
            exact ⟨A', _, c', rfl, rfl, ho.rd, hb⟩
          have HO5 : Hid (Own wr w.heap.size 98 3 A' m1 c' (spsC (pre (fun d : Nat => part u d) d))) := own_later HO.out HB2.out
          clear hall HC HO HB2
          go_wp2_with fail
          refine HC'.out.mono ?_
          rintro e w3 ⟨A3, q3, c3, rfl, HL3, HR3, hb3⟩
          have HB3 := Lib.hid (HBW.out.trans (hb3.mono HBW.out.size))
          have HO3 := Lib.hid (own_later HO5.out hb3)
          clear hb3
          have HC4 := Lib.hid (spans_any (part u d) q3 A3 c3 d w3 HL3.out (by have := HQ4.out q3 HL3.out; omega) HR3.out)
          go_wp2_with fail
          refine HC4.out.mono ?_
          rintro e w4 ⟨A4, c4, rfl, ho4, hb4⟩
          have hO4 := own_later HO3.out hb4
          have hB4 := HB3.out.trans (hb4.mono HB3.out.size)
          obtain ⟨A5, c5, w5, hrun, ho5, hb5⟩ := appsC hO4 ho4.rd (by have := HQ4.out q3 HL3.out; omega) hB4.size
          have Hrun := Lib.hid hrun
          have HO6 := Lib.hid ho5
          have HB5 := Lib.hid (hB4.trans hb5)
          have HM5 : Hid ((pre (fun d : Nat => part u d) (d + 1)).length = m1 + q3) := by
            simp only [pre, List.length_append, Cx.spans_len, Hid]
            rw [HM.out, HL3.out]
          clear hb4 ho4 hO4 hB4 hrun ho5 hb5
          go_wp2_with (at_builtin; refine Lib.wpList_append_run _ rfl _ _ _ _ rfl _ _ rfl rfl _ _ Hrun.out ?_)
          go_roundw
          case rel => exact ⟨d + 1, m1 + q3, A5, c5, by omega, rfl, by go_num, HM5.out, HO6.out, HB5.out⟩
          case measure => simp [intOf]; omega
    · obtain rfl : d = 4 := by omega
      have HE : Hid (m1 = q) := by unfold Hid; rw [← HM.out, HUP.out, HQ.out]
      rw [HUP.out, HE.out] at HO
      rw [HE.out]
      go_wp2
      go_ret
      exact ⟨_, _, rfl, HO.out, HB.out⟩
end Cx
end Go.Proofs.YtemilfojnecldaaGreat
namespace Go.Proofs.YtemilfojnecldaaGreat
open Go.ChangeShapes Go.WideShapes Go.ChangeAt Go.RowKit
namespace Cx
open Sp Rw
set_option maxRecDepth 100000
end Cx
end Go.Proofs.YtemilfojnecldaaGreat
namespace Go.Proofs.YtemilfojnecldaaGreat
open Go.ChangeShapes Go.WideShapes Go.ChangeAt Go.RowKit
namespace Tr
open Sp Rw
theorem nodes_get (t : T) : ∀ p : List ByteArray, nodes (getT t p) ≤ nodes t
  | [] => Nat.le_refl _
  | k :: p => by
    unfold getT
    refine Nat.le_trans (nodes_get _ p) ?_
    cases t with
    | mk es ks =>
      show nodes (kidAt ks k) ≤ _
      rcases kidAt_mem (ks := ks) (key := k) with ⟨x, h1, _, h3⟩ | ⟨_, h2⟩
      · rw [h3]; exact nodes_kid h1
      · rw [h2]; unfold none_; rw [nodes_mk]; simp
theorem right_get {d : Nat} : ∀ {t : T}, RightT (d + 1) t → ∀ p : List ByteArray, RightT (d + 1) (getT t p)
  | _, h, [] => h
  | _, h, k :: p => right_get (h.kid k) p
theorem get_snoc (t : T) : ∀ (p : List ByteArray) (k : ByteArray), getT t (p ++ [k]) = kidAt (getT t p).ks k
  | [], _ => rfl
  | x :: p, k => get_snoc (kidAt t.ks x) p k
set_option maxRecDepth 100000 in
set_option maxHeartbeats 4000000 in
theorem refget_any (d : Nat) (t : T) (Ae Ak : Option Addr) (ne nk ce ck : Nat) (w : World) (l : List ByteArray) (A : Option Addr) (n c : Nat) (hl9 : l.length = n) (hn9 : n ≤ 100000) (hrl : Rd w w.heap.size 1 A n c (strs l)) (ht : RightT (d + 1) t) (hn : nodes t ≤ 100000) (hr : RdT w w.heap.size t ⟨Ae, ne, ce⟩ ⟨Ak, nk, ck⟩) :
    Calls Tryz.prog 45 #[.agg #[.slice Ae ne ce, .slice Ak nk ck], .slice A n c] w (fun e w' => ∃ Ae ne ce Ak nk ck, e = .returned (.agg #[.slice Ae ne ce, .slice Ak nk ck]) ∧ RdO w' (fun b => w.heap.size ≤ b) (getT t l) ⟨Ae, ne, ce⟩ ⟨Ak, nk, ck⟩ ∧ Below w.heap.size w w') := by
  have HL9 := Lib.hid hl9
  have HRL := Lib.hid hrl
  have HT := Lib.hid ht
  have HN := Lib.hid hn
  have HR := Lib.hid hr
  clear hl9 hrl ht hn hr
  obtain ⟨g, hg⟩ : ∃ g, g = w.heap.size := ⟨_, rfl⟩
  have HK := Lib.hid (tree_box w Ae Ak ne nk ce ck)
  rw [← hg] at HK
  obtain ⟨W0, hW0⟩ : ∃ W, W = w.alloc (.cells #[.slice Ae ne ce, .slice Ak nk ck] 25) := ⟨_, rfl⟩
  rw [← hW0] at HK
  have HG := Lib.hid hg
  have HW0 := Lib.hid hW0
  have k0 := HK.out.c0
  have k1 := HK.out.c1
  clear hg hW0
  obtain ⟨q, hq⟩ : ∃ q, q = W0.heap.size := ⟨_, rfl⟩
  obtain ⟨W1, hW1⟩ : ∃ W, W = W0.alloc (.cells #[.slice none 0 0, .slice none 0 0] 25) := ⟨_, rfl⟩
  have hb1 : Below W0.heap.size W0 W1 := by rw [hW1]; exact Dt.box_below _ _ _
  have q0 : W1.cell? ⟨q, 0, none⟩ = some (.slice none 0 0) := by rw [hW1, hq]; go_simp
  have q1 : W1.cell? ⟨q, 1, none⟩ = some (.slice none 0 0) := by rw [hW1, hq]; go_simp
  have HFQ : Hid (Free q W1) := ⟨by rw [hW1, hq]; simp, fun j => by rw [hW1, hq]; go_simp⟩
  have HFG : Hid (Free g W1) := (show Free g W0 from ⟨World.block_lt_of_cell? W0 _ HK.out.c0, fun j => by rw [HW0.out, HG.out]; go_simp⟩).later hb1
  have HKB := Lib.hid (((HK.out.later hb1).cons_of q1).cons_of q0)
  have HQ : Hid (q = g + 1) := by unfold Hid; rw [hq, HW0.out, HG.out]; simp
  have hgW : g < W0.heap.size := World.block_lt_of_cell? W0 _ HK.out.c0
  have hgq : g ≠ q := by omega
  have hgq2 : ¬ q = g := by omega
  have hwg : w.heap.size ≤ g := by have := HG.out; omega
  have hwq : w.heap.size ≤ q := by omega
  have HW1 := Lib.hid hW1
  have HBq : Hid (Below w.heap.size w W1) := HKB.out.below
  clear hq hW1 hb1 q0 q1 k0 k1
  go_enter Tryz.func45, Tryz.ntmps45
  go_wp2_with fail
  rw [← HG.out, ← HW0.out, ← HQ.out, ← HW1.out]
  refine (leaves_any t Ae Ak ne nk ce ck W1 (by have := HN.out; omega) (RdT.more HKB.out.below.size _ (RdT.below HR.out HKB.out.below))).mono ?_
  rintro e w2 ⟨A2, c2, rfl, hl2, hb2⟩
  obtain ⟨m2, hm2⟩ : ∃ z, z = (leaves t).length := ⟨_, rfl⟩
  rw [← hm2] at hl2 ⊢
  have HL2 := Lib.hid hl2
  have HK2 := Lib.hid (HKB.out.later hb2)
  have HFQ2 := Lib.hid (HFQ.out.later hb2)
  have hm25 : m2 ≤ 100000 := by rw [hm2]; exact Nat.le_trans (leaves_nodes t) HN.out
  clear hl2 hb2 hm2
  go_wp2_with fail
  go_loopw [5, 11] (fun s i wr => ∃ (k : Nat) (Ax : Option Addr) (m cx : Nat), k ≤ n ∧ i = .int .i64 k ∧ s = .slice Ax m cx ∧ m ≤ 100000 ∧ Hid (LfRd wr wr.heap.size Ax m cx (leaves (getT t (l.take k)))) ∧ Hid (Kept [(⟨q, 0, none⟩, .slice none 0 0), (⟨q, 1, none⟩, .slice none 0 0), (⟨g, 0, none⟩, .slice Ae ne ce), (⟨g, 1, none⟩, .slice Ak nk ck)] w wr) ∧ Hid (Free q wr)) (fun _ i _ => n - (intOf i).toNat)
  case atStart => exact ⟨0, A2, m2, c2, by omega, rfl, rfl, hm25, HL2.out, HK2.out, HFQ2.out⟩
  case round =>
    obtain ⟨k, Ax, m, cx, hk, rfl, rfl, hm5, HLF, HKW, HFQW⟩ := hrel
    by_cases hlt : k < n
    · have hkl : k < l.length := by rw [HL9.out]; exact hlt
      obtain ⟨b, o, rfl, hb, hc⟩ := HRL.out.at_ (by omega)
      obtain ⟨x, hx⟩ : ∃ x, x = l[k] := ⟨_, rfl⟩
      have cx9 := (HKW.out.below.cell (p := ⟨b, o + k, none⟩) hb).trans (hc k (.string x) (by rw [hx]; simp [strs, hkl]))
      have hu := right_get HT.out (l.take k)
      have hun := under_any (leaves (getT t (l.take k))) m Ax cx x wr hm5 HLF.out
      have hul : under (leaves (getT t (l.take k))) x = leaves (getT t (l.take (k + 1))) := by
        rw [under_leaves hu x, List.take_succ_eq_append_getElem hkl, get_snoc, hx]
      rw [hul] at hun
      obtain ⟨m3, hm3⟩ : ∃ z, z = (leaves (getT t (l.take (k + 1)))).length := ⟨_, rfl⟩
      rw [← hm3] at hun
      have hm35 : m3 ≤ 100000 := by rw [hm3]; exact Nat.le_trans (leaves_nodes _) (Nat.le_trans (nodes_get t _) HN.out)
      have HUN := Lib.hid hun
      clear hc hx hu hun hul hm3
      go_wp2_with fail
      refine HUN.out.mono ?_
      rintro e w3 ⟨A3, c3, rfl, hl3, hb3⟩
      have HL3 := Lib.hid hl3
      have HK3 := Lib.hid (HKW.out.later hb3)
      have HFQ3 := Lib.hid (HFQW.out.later hb3)
      clear hl3 hb3 cx9
      go_wp2_with fail
      go_roundw
      case rel => exact ⟨k + 1, A3, m3, c3, by omega, by go_num, rfl, hm35, HL3.out, HK3.out, HFQ3.out⟩
      case measure => simp [intOf]; omega
    · obtain rfl : n = k := by omega
      have hlf := HLF.out
      rw [List.take_of_length_le (by rw [HL9.out]; omega)] at hlf
      have HBU := Lib.hid (build_any (d + 1) (getT t l) (right_get HT.out l) Ax m cx wr (Nat.le_trans (nodes_get t l) HN.out) hlf)
      clear hlf
      go_wp2_with fail
      refine HBU.out.mono ?_
      rintro e w5 ⟨Ae9, ne9, ce9, Ak9, nk9, ck9, rfl, hro, hb5⟩
      have HK5 := Lib.hid (HKW.out.later hb5)
      have HFQ5 := Lib.hid (HFQW.out.later hb5)
      have HRO5 : Hid (RdO w5 (fun b => w.heap.size ≤ b ∧ b ≠ q) (getT t l) ⟨Ae9, ne9, ce9⟩ ⟨Ak9, nk9, ck9⟩) := RdO.mono (fun b hb _ => ⟨Nat.le_trans HKW.out.below.size hb, fun e => by have := HFQW.out.1; omega⟩) _ hro
      have k0 := HK5.out.c0
      have k1 := HK5.out.c1
      have m0 := HFQ5.out.2 0
      have m1 := HFQ5.out.2 1
      clear hro hb5
      obtain ⟨w9, hw9⟩ : ∃ W, W = (w5.setCell ⟨q, 0, none⟩ (.slice Ae9 ne9 ce9)).setCell ⟨q, 1, none⟩ (.slice Ak9 nk9 ck9) := ⟨_, rfl⟩
      have HT9 : Hid (RdO w9 (fun b => w.heap.size ≤ b) (getT t l) ⟨Ae9, ne9, ce9⟩ ⟨Ak9, nk9, ck9⟩) := by
        unfold Hid
        rw [hw9]
        refine RdO.mono (fun b hb _ => hb.1) _ (RdO.keep (ok := fun b => w.heap.size ≤ b ∧ b ≠ q) (by simp [World.setCell]) (fun b hb hlt => ?_) _ HRO5.out)
        exact (Below.heap_setCell _ ⟨q, 1, none⟩ _ b (fun e => hb.2 e)).trans (Below.heap_setCell _ ⟨q, 0, none⟩ _ b (fun e => hb.2 e))
      have HB9 : Hid (Below w.heap.size w w9) := by unfold Hid; rw [hw9]; exact (HK5.out.below.setCell (p := ⟨q, 0, none⟩) hwq _).setCell (p := ⟨q, 1, none⟩) hwq _
      have j0 : w9.cell? ⟨q, 0, none⟩ = some (.slice Ae9 ne9 ce9) := by rw [hw9]; go_simp
      have j1 : w9.cell? ⟨q, 1, none⟩ = some (.slice Ak9 nk9 ck9) := by rw [hw9]; go_simp
      have HW9 := Lib.hid hw9
      clear hw9
      go_wp2_with fail
      rw [← HW9.out]
      refine bodyPost_ret (v := .agg #[.slice Ae9 ne9 ce9, .slice Ak9 nk9 ck9]) (by simp [results, Tryz.results45, go_sem, j0, j1]) rfl ⟨Ae9, ne9, ce9, Ak9, nk9, ck9, rfl, HT9.out, HB9.out⟩
end Tr
end Go.Proofs.YtemilfojnecldaaGreat
