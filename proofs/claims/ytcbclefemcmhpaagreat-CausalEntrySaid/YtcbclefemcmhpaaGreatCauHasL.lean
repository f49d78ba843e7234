/- Is there an entry of a dot below keys. -/
import Derived.Test.YtcbclefemcmhpaaGreatG00
import Derived.Test.YtcbclefemcmhpaaGreatCauKit
import Derived.Test.YtcbclefemcmhpaaGreatG10
import Derived.Test.YtcbclefemcmhpaaGreatG20
namespace Go.Proofs.YtcbclefemcmhpaaGreat
open Go.ChangeShapes Go.WideShapes Go.ChangeAt Go.RowKit
namespace Cs
open Tr Cx Sp Rw Classical
theorem nodes_get (t : T) : ∀ l : List ByteArray, nodes (getT t l) ≤ nodes t
 | [] => Nat.le_refl _
 | k :: l => by
  unfold getT
  refine Nat.le_trans (nodes_get _ l) ?_
  have h := nodes_kidAt t.ks t.es k
  rwa [T.eta] at h
theorem hasCB_of {l : List S3} (h : RightC l) (a v : Int) : hasCB l a v = hasC l a v := by
 unfold hasCB
 rw [rightCB_true h, Bool.true_and]
 show (Dt.rightB a v && hasC l a v) = hasC l a v
 cases e : hasC l a v with
 | false => exact Bool.and_false _
 | true => rw [has_right h e]; rfl
/-- is there an entry of this dot there -/
noncomputable def hasAt (t : T) (l : List ByteArray) (q : Int × Int) : Bool := (entAt t l q).isSome
theorem boxH (w : World) (Ae Ak Ca : Option Addr) (ne nk ce ck na ca9 : Nat) (a v : Int) : ∃ (W : World) (p q : Nat), Hid (W = (w.alloc (.cells #[.slice Ae ne ce, .slice Ak nk ck, .slice Ca na ca9] 29)).alloc (.cells #[.int .i64 a, .int .i64 v] 48)) ∧ Hid (p = w.heap.size) ∧ Hid (q = p + 1) ∧ Hid (Kept [(⟨p, 0, none⟩, .slice Ae ne ce), (⟨p, 1, none⟩, .slice Ak nk ck), (⟨p, 2, none⟩, .slice Ca na ca9), (⟨q, 0, none⟩, .int .i64 a), (⟨q, 1, none⟩, .int .i64 v)] w W) := by
 refine ⟨_, _, _, rfl, rfl, rfl, ?_⟩
 have h0 := Kept.nil_of (Dt.box2_below w #[.slice Ae ne ce, .slice Ak nk ck, .slice Ca na ca9] #[.int .i64 a, .int .i64 v] 29 48)
 refine (((((h0.cons_of ?_).cons_of ?_).cons_of ?_).cons_of ?_).cons_of ?_) <;> go_simp
set_option maxRecDepth 100000 in
set_option maxHeartbeats 4000000 in
theorem hasL_any (t : T) (Ae Ak Ca : Option Addr) (ne nk ce ck na ca9 : Nat) (l : List ByteArray) (A : Option Addr) (n c : Nat) (a v : Int) (w : World) (hn : nodes t ≤ 1000) (hr : RdT w w.heap.size t ⟨Ae, ne, ce⟩ ⟨Ak, nk, ck⟩) (hz : RightT 5 t) (hl9 : l.length = n) (hn9 : n ≤ 1000) (hrl : Rd w w.heap.size 1 A n c (strs l)) :
  Calls Tryz.prog 28 #[.agg #[.slice Ae ne ce, .slice Ak nk ck, .slice Ca na ca9], .slice A n c, .agg #[.int .i64 a, .int .i64 v]] w fun e w' => e = .returned (.bool (hasAt t l (a, v))) ∧ Below w.heap.size w w' := by
 obtain ⟨z, hz2⟩ : ∃ z, hasAt t l (a, v) = z := ⟨_, rfl⟩
 rw [hz2]
 have HZ := Lib.hid hz2
 have HT := Lib.hid hz
 obtain ⟨W, p, q, HW, HP, HQ, HK⟩ := boxH w Ae Ak Ca ne nk ce ck na ca9 a v
 have hb := HK.out.below
 have HGT := Lib.hid (get_any t Ae Ak ne nk ce ck W l A n c hl9 (by omega) ((hrl.below hb).more hb.size) (LenT.few (by omega)) (by omega) (RdT.more hb.size _ (RdT.below hr hb)))
 rw [rightB_iff.2 hz, if_pos rfl] at HGT
 have HN : Hid (nodes (getT t l) ≤ 1000) := Nat.le_trans (nodes_get t l) hn
 clear hz2 hz hr hl9 hrl hb hn
 have c0 := HK.out.c0
 have c1 := HK.out.c1
 go_enter Tryz.func28, Tryz.ntmps28
 go_wp2_with fail
 rw [← HW.out, ← HP.out]
 try rw [← HQ.out]
 refine HGT.out.mono ?_
 rintro e v1 ⟨Re, rn, rc, Rk, rm, rd, rfl, hro, hb9⟩
 obtain ⟨g, hg⟩ : ∃ g, g = v1.heap.size := ⟨_, rfl⟩
 obtain ⟨v2, hv2⟩ : ∃ x, x = v1.alloc (.cells #[.slice Re rn rc, .slice Rk rm rd] 25) := ⟨_, rfl⟩
 have hb2 : Below v1.heap.size v1 v2 := by rw [hv2]; exact Dt.box_below _ _ _
 have g0 : v2.cell? ⟨g, 0, none⟩ = some (.slice Re rn rc) := by rw [hv2, hg]; go_simp
 have HK2 := Lib.hid ((HK.out.later hb9).later hb2)
 have HKG : Hid (Kept [(⟨g, 0, none⟩, .slice Re rn rc), (⟨q, 0, none⟩, .int .i64 a), (⟨q, 1, none⟩, .int .i64 v)] w v2) := (((Kept.nil_of HK2.out.below).cons_of HK2.out.c4).cons_of HK2.out.c3).cons_of g0
 obtain ⟨es, hes⟩ : ∃ es, es = (getT t l).es := ⟨_, rfl⟩
 have hlen : es.length = rn := by rw [hes]; exact (rd_lens2 hro).1
 have HLEN := Lib.hid hlen
 have hrd : Rd v2 v2.heap.size 4 Re rn rc (entsC es) := by
  rw [hes]
  have h1 := (RdO.later hro hb2).rd
  rw [← T.eta (getT t l)] at h1
  exact (rd_parts h1).1
 have HRD := Lib.hid hrd
 have hrn : rn ≤ 1000 := by
  have h1 := HN.out
  rw [← T.eta (getT t l)] at h1
  have h2 := nodes_es (getT t l).es (getT t l).ks
  rw [← hlen, hes]
  omega
 have HLK : Hid ((look keyE es (a, v)).isSome = z) := by unfold Hid; rw [hes]; exact HZ.out
 have HG := Lib.hid hg
 have HV2 := Lib.hid hv2
 clear hb9 hb2 hro hg hv2 c0 c1 hes hlen hrd
 have y0 := g0
 rw [HV2.out, HG.out] at y0
 clear g0
 go_wp2_with fail
 rw [← HG.out, ← HV2.out]
 clear y0
 go_loopw [16] (fun i wr => ∃ (k : Nat), k ≤ rn ∧ i = .int .i64 k ∧ Hid (∀ (j : Nat) (h : j < es.length), j < k → ¬ keyE es[j] = (a, v)) ∧ Hid (Kept [(⟨g, 0, none⟩, .slice Re rn rc), (⟨q, 0, none⟩, .int .i64 a), (⟨q, 1, none⟩, .int .i64 v)] w wr ∧ Below v2.heap.size v2 wr)) (fun i _ => rn - (intOf i).toNat)
 case atStart => exact ⟨0, by omega, rfl, fun j _ h => absurd h (by omega), HKG.out, Below.refl _ _⟩
 case round =>
  obtain ⟨k, hk, rfl, HNO, HKB⟩ := hrel
  have HKW := Lib.hid HKB.out.1
  have HBW := Lib.hid HKB.out.2
  by_cases hlt : k < rn
  ·have hkl : k < es.length := by rw [HLEN.out]; exact hlt
   obtain ⟨b, o, rfl, hb, hc⟩ := rd_elem entC_len HRD.out (m := k) (by omega)
   have x0 := (HBW.out.cell (p := ⟨b, o + k * 4, none⟩) hb).trans (hc k hkl 0 _ rfl)
   have x1 := (HBW.out.cell (p := ⟨b, o + k * 4 + 1, none⟩) hb).trans (hc k hkl 1 _ rfl)
   obtain ⟨ea, hea⟩ : ∃ x, x = (es[k]).a := ⟨_, rfl⟩
   obtain ⟨en, hen⟩ : ∃ x, x = (es[k]).n := ⟨_, rfl⟩
   rw [← hea] at x0
   rw [← hen] at x1
   have HKE : Hid (keyE es[k] = (ea, en)) := by unfold Hid keyE; rw [hea, hen]
   have q0 := HKW.out.c0
   have q1 := HKW.out.c1
   have q2 := HKW.out.c2
   clear hc hea hen
   by_cases h1 : ea = a
   ·by_cases h2 : en = v
    ·have f1 : (ea == a) = true := by rw [beq_iff_eq]; exact h1
     have f2 : (en == v) = true := by rw [beq_iff_eq]; exact h2
     have hzt : true = z := by
      rw [← HLK.out]
      cases hlk : look keyE es (a, v) with
      | some x => rfl
      | none => exact absurd (by rw [HKE.out, h1, h2]) (look_none_iff.1 hlk _ (List.getElem_mem hkl))
     have HZT := Lib.hid hzt
     clear hzt h1 h2
     go_wp2_with fail
     refine wp_region_held_drew (S := fun W => W.cell? ⟨g, 0, none⟩ = some (.slice (some ⟨b, o, none⟩) rn rc) ∧ W.cell? ⟨b, o + k * 4, none⟩ = some (.int .i64 ea) ∧ W.cell? ⟨b, o + k * 4 + 1, none⟩ = some (.int .i64 en) ∧ W.cell? ⟨q, 0, none⟩ = some (.int .i64 a) ∧ W.cell? ⟨q, 1, none⟩ = some (.int .i64 v)) (by kernel_rfl) (by go_keep) (fun hHeld => ?_)
     refine Tk 0 19 ?_
     refine Tk 1 20 ?_
     refine Tk 2 21 ?_
     refine Tk 3 22 ?_
     refine Tk 4 23 ?_
     refine Tk 5 24 ?_
     refine Tk 6 25 ?_
     refine Tk 7 26 ?_
     refine wpAnyH_done (by kernel_rfl) ?_ _
     clear hHeld
     obtain rfl : true = z := HZT.out
     go_wp2_with fail
     go_ret
     exact ⟨rfl, HKW.out.below.drew⟩
    ·have f1 : (ea == a) = true := by rw [beq_iff_eq]; exact h1
     have f2 : (en == v) = false := by rw [beq_eq_false_iff_ne]; exact h2
     have HNO2 : Hid (∀ (j : Nat) (h : j < es.length), j < k + 1 → ¬ keyE es[j] = (a, v)) := fun j hj hl => by
      by_cases e : j < k
      ·exact HNO.out j hj e
      ·obtain rfl : j = k := by omega
       rw [HKE.out]
       exact fun h => h2 (congrArg Prod.snd h)
     have HKD : Hid (Kept _ w wr.drew ∧ Below v2.heap.size v2 wr.drew) := ⟨HKW.out.drew, HBW.out.drew⟩
     clear h1 h2
     go_wp2_with fail
     refine wp_region_held_drew (S := fun W => W.cell? ⟨g, 0, none⟩ = some (.slice (some ⟨b, o, none⟩) rn rc) ∧ W.cell? ⟨b, o + k * 4, none⟩ = some (.int .i64 ea) ∧ W.cell? ⟨b, o + k * 4 + 1, none⟩ = some (.int .i64 en) ∧ W.cell? ⟨q, 0, none⟩ = some (.int .i64 a) ∧ W.cell? ⟨q, 1, none⟩ = some (.int .i64 v)) (by kernel_rfl) (by go_keep) (fun hHeld => ?_)
     refine Tk 0 19 ?_
     refine Tk 1 20 ?_
     refine Tk 2 21 ?_
     refine Tk 3 22 ?_
     refine Tk 4 23 ?_
     refine Tk 5 24 ?_
     refine Tk 6 25 ?_
     refine Tk 7 26 ?_
     refine wpAnyH_done (by kernel_rfl) ?_ _
     clear hHeld
     go_wp2_with fail
     go_roundw
     case rel => exact ⟨k + 1, by omega, by go_num, HNO2.out, HKD.out⟩
     case measure => simp [intOf]; omega
   ·have f1 : (ea == a) = false := by rw [beq_eq_false_iff_ne]; exact h1
    have HNO2 : Hid (∀ (j : Nat) (h : j < es.length), j < k + 1 → ¬ keyE es[j] = (a, v)) := fun j hj hl => by
     by_cases e : j < k
     ·exact HNO.out j hj e
     ·obtain rfl : j = k := by omega
      rw [HKE.out]
      exact fun h => h1 (congrArg Prod.fst h)
    have HKD : Hid (Kept _ w wr.drew ∧ Below v2.heap.size v2 wr.drew) := ⟨HKW.out.drew, HBW.out.drew⟩
    clear h1
    go_wp2_with fail
    refine wp_region_held_drew (S := fun W => W.cell? ⟨g, 0, none⟩ = some (.slice (some ⟨b, o, none⟩) rn rc) ∧ W.cell? ⟨b, o + k * 4, none⟩ = some (.int .i64 ea) ∧ W.cell? ⟨b, o + k * 4 + 1, none⟩ = some (.int .i64 en) ∧ W.cell? ⟨q, 0, none⟩ = some (.int .i64 a) ∧ W.cell? ⟨q, 1, none⟩ = some (.int .i64 v)) (by kernel_rfl) (by go_keep) (fun hHeld => ?_)
    refine Tk 0 19 ?_
    refine Tk 1 20 ?_
    refine Tk 2 21 ?_
    refine Tk 3 22 ?_
    refine Tk 4 23 ?_
    refine Tk 5 24 ?_
    refine Tk 6 25 ?_
    refine Tk 7 26 ?_
    refine wpAnyH_done (by kernel_rfl) ?_ _
    clear hHeld
    go_wp2_with fail
    go_roundw
    case rel => exact ⟨k + 1, by omega, by go_num, HNO2.out, HKD.out⟩
    case measure => simp [intOf]; omega
  ·obtain rfl : k = rn := by omega
   have hzf : false = z := by
    rw [← HLK.out, look_none fun x hx he => by
     obtain ⟨j, hj, rfl⟩ := List.getElem_of_mem hx
     exact HNO.out j hj (by rw [← HLEN.out]; exact hj) he]
    rfl
   subst hzf
   go_wp2_with fail
   go_ret
   exact ⟨rfl, HKW.out.below⟩
end Cs
end Go.Proofs.YtcbclefemcmhpaaGreat
