/- SetElems: a law, walked, and proved. -/
import Derived.Test.YtemilfojnecldaaGreatG00
import Derived.Test.YtemilfojnecldaaGreatSetAwake
import Derived.Test.YtemilfojnecldaaGreatSetRef
open Go.ChangeShapes Go.WideShapes Go.ChangeAt Go.RowKit
namespace Go.Proofs.YtemilfojnecldaaGreat
namespace lawSetElems
open Tr Cx Cs Sp Rw Classical
theorem elems_len (t : T) : (elemsT t).length ≤ nodes t := by
 unfold elemsT
 rw [List.length_map]
 refine Nat.le_trans (List.length_filter_le _ _) ?_
 have h := nodes_es t.es t.ks
 rw [T.eta] at h
 omega
theorem less_less (l : List ByteArray) (s : ByteArray) : (lessL l s).length < l.length ↔ s ∈ l := by
 refine ⟨fun h => ?_, fun h => ?_⟩
 ·refine Classical.byContradiction fun hs => ?_
  have : lessL l s = l := by
   unfold lessL
   rw [List.filter_eq_self]
   exact fun x hx => decide_eq_true fun e => hs (by rw [← e]; exact hx)
  rw [this] at h
  omega
 ·unfold lessL
  refine List.length_filter_lt_length_iff_exists.2 ⟨s, h, ?_⟩
  simp
theorem boxL (w : World) (Ae Ak : Option Addr) (ne nk ce ck : Nat) : ∃ (W : World) (p : Nat), Hid (W = (w.alloc (.cells #[.slice Ae ne ce, .slice Ak nk ck] 25))) ∧ Hid (p = w.heap.size) ∧  Hid (Kept [(⟨p, 0, none⟩, .slice Ae ne ce), (⟨p, 1, none⟩, .slice Ak nk ck)] w W) := by
 refine ⟨_, _, rfl, rfl, ?_⟩
 have h0 := Kept.nil_of (show Below w.heap.size w ((w.alloc (.cells #[.slice Ae ne ce, .slice Ak nk ck] 25))) from (Below.refl _ _).alloc (Nat.le_refl _) _)
 refine ((h0).cons_of ?_).cons_of ?_ <;> go_simp
set_option maxRecDepth 100000 in
set_option maxHeartbeats 4000000 in
theorem walk_any (t : T) (Ae Ak : Option Addr) (ne nk ce ck : Nat) (tx : ByteArray) (w : World) (hr : RdT w w.heap.size t ⟨Ae, ne, ce⟩ ⟨Ak, nk, ck⟩) (hl : LenT reachBytes t) :
  Calls Tryz.prog 5 #[.agg #[.slice Ae ne ce, .slice Ak nk ck], .string tx] w fun e w' => e = .returned (.bool true) ∧ Below w.heap.size w w' := by
 obtain ⟨W, p, HW, HP, HKc⟩ := boxL w Ae Ak ne nk ce ck 
 have R := Lib.hid (RdT.later hr HKc.out.below)
 have L := Lib.hid hl
 clear hr hl
 have c0 := HKc.out.c0
 have c1 := HKc.out.c1
 go_enter Tryz.func5, Tryz.ntmps5
 go_wp2_with fail
 rw [← HW.out, ← HP.out]
 refine (awake11 W).mono ?_
 rintro e v1 ⟨rfl, hb9⟩
 have HKc := Lib.hid (HKc.out.later hb9)
 have R := Lib.hid (RdT.later R.out hb9)
 clear hb9
 clear c0 c1
 have c0 := HKc.out.c0
 have c1 := HKc.out.c1
 go_wp2_with fail
 refine (small_tree t Ae Ak ne nk ce ck v1 L.out R.out).mono ?_
 rintro e v2 ⟨b9, rfl, hsm, hb9⟩
 have HKc := Lib.hid (HKc.out.later hb9)
 have R := Lib.hid (RdT.later R.out hb9)
 clear hb9
 clear c0 c1
 cases b9 with
 | false =>
  clear hsm
  go_wp2_with fail
  refine (awake11 _).mono ?_
  rintro e v99 ⟨rfl, hb9⟩
  have HKc := Lib.hid (HKc.out.later hb9)
  clear hb9
  go_wp2_with fail
  go_ret
  exact ⟨by first | rfl | simp, HKc.out.below⟩
 | true =>
  have N : Hid (nodes t ≤ 60) := hsm rfl
  clear hsm
  obtain ⟨y, hy⟩ : ∃ y, Tr.rightB 5 t = y := ⟨_, rfl⟩
  obtain ⟨lw, hlw⟩ : ∃ l, (if Tr.rightB 5 t = true then elemsT t else []) = l := ⟨_, rfl⟩
  obtain ⟨z, hz⟩ : ∃ z, (Tr.rightB 5 t && decide (tx ∈ elemsT t)) = z := ⟨_, rfl⟩
  have HLW := Lib.hid hlw
  have HZ := Lib.hid hz
  have HY := Lib.hid hy
  have HIN : Hid (z = decide ((lessL lw tx).length < lw.length)) := by
   unfold Hid
   rw [← hz, ← hlw]
   cases hr : Tr.rightB 5 t with
   | false => rw [if_neg (by simp)]; rfl
   | true => rw [if_pos rfl, Bool.true_and]; exact decide_eq_decide.2 (less_less _ _).symm
  have HLN : Hid (lw.length ≤ 60) := by
   unfold Hid
   rw [← hlw]
   split
   ·exact Nat.le_trans (elems_len t) N.out
   ·simp
  clear hy hlw hz
  have c0 := HKc.out.c0
  have c1 := HKc.out.c1
  go_wp2_with fail
  refine (refrightT_any t Ae Ak ne nk ce ck v2 L.out R.out).mono ?_
  rw [HY.out]
  rintro e v3 ⟨rfl, hb9⟩
  have HKc := Lib.hid (HKc.out.later hb9)
  have R := Lib.hid (RdT.later R.out hb9)
  clear hb9
  clear c0 c1
  cases y with
  | false =>
   have HNW : Hid (0 = lw.length) := by unfold Hid; rw [← HLW.out, if_neg (by rw [HY.out]; simp)]; rfl
   have hlw0 : lw = [] := List.eq_nil_of_length_eq_zero HNW.out.symm
   have RW : Hid (Rd v3 v3.heap.size 1 none 0 0 (strs lw)) := by unfold Hid; rw [hlw0]; exact Rd.nil _
   clear hlw0
   have c0 := HKc.out.c0
   have c1 := HKc.out.c1
   go_wp2_with fail
   refine (selems_any t Ae Ak ne nk ce ck v3 lw HLW.out L.out (by have := N.out; omega) R.out).mono ?_
   rintro e v4 ⟨El, el1, el2, rfl, hro, hb9⟩
   have HKc := Lib.hid (HKc.out.later hb9)
   have R := Lib.hid (RdT.later R.out hb9)
   have RW := Lib.hid (RW.out.later hb9)
   clear hb9
   clear c0 c1
   have RE := Lib.hid hro.out
   clear hro
   have HNE : Hid (el1 = lw.length) := (rd_len1 RE.out).symm
   have c0 := HKc.out.c0
   have c1 := HKc.out.c1
   go_wp2_with fail
   refine (refalike_any lw lw el1 0 El none el2 0 v4 (by have := HNE.out; have := HLN.out; omega) RE.out RW.out true (decide_eq_true rfl)).mono ?_
   rintro e v5 ⟨rfl, hb9⟩
   have HKc := Lib.hid (HKc.out.later hb9)
   have R := Lib.hid (RdT.later R.out hb9)
   have RW := Lib.hid (RW.out.later hb9)
   have RE := Lib.hid (RE.out.later hb9)
   clear hb9
   clear c0 c1
   have c0 := HKc.out.c0
   have c1 := HKc.out.c1
   go_wp2_with fail
   refine (shas_any t Ae Ak ne nk ce ck tx v5 z HZ.out L.out (by have := N.out; omega) R.out).mono ?_
   rintro e v6 ⟨rfl, hb9⟩
   have HKc := Lib.hid (HKc.out.later hb9)
   have R := Lib.hid (RdT.later R.out hb9)
   have RW := Lib.hid (RW.out.later hb9)
   have RE := Lib.hid (RE.out.later hb9)
   clear hb9
   clear c0 c1
   have c0 := HKc.out.c0
   have c1 := HKc.out.c1
   go_wp2_with fail
   refine (refless_any lw 0 none 0 tx v6 (by have := HNW.out; have := HLN.out; omega) RW.out).mono ?_
   rintro e v7 ⟨Ll, ll1, ll2, rfl, hro, hb9⟩
   have HKc := Lib.hid (HKc.out.later hb9)
   have R := Lib.hid (RdT.later R.out hb9)
   have RW := Lib.hid (RW.out.later hb9)
   have RE := Lib.hid (RE.out.later hb9)
   clear hb9
   clear c0 c1
   have hll : ll1 = (lessL lw tx).length := (rd_len1 hro.out).symm
   have fz : (z == decide ((ll1 : Int) < ((0 : Nat) : Int))) = true := by
    rw [HIN.out, hll, HNW.out]
    simp
   clear hro hll
   go_wp2_with fail
   go_ret
   exact ⟨by simpa using fz, HKc.out.below⟩
  | true =>
   have c0 := HKc.out.c0
   have c1 := HKc.out.c1
   go_wp2_with fail
   refine (refelems_any t Ae Ak ne nk ce ck v3 L.out (by have := N.out; omega) R.out).mono ?_
   rintro e v4 ⟨Wl, wl1, wl2, rfl, hro, hb9⟩
   have HKc := Lib.hid (HKc.out.later hb9)
   have R := Lib.hid (RdT.later R.out hb9)
   clear hb9
   clear c0 c1
   have RW : Hid (Rd v4 v4.heap.size 1 Wl wl1 wl2 (strs lw)) := by
    have h := HLW.out
    rw [if_pos HY.out] at h
    rw [← h]
    exact hro
   have HNW : Hid (wl1 = lw.length) := (rd_len1 RW.out).symm
   clear hro
   have c0 := HKc.out.c0
   have c1 := HKc.out.c1
   go_wp2_with fail
   refine (selems_any t Ae Ak ne nk ce ck v4 lw HLW.out L.out (by have := N.out; omega) R.out).mono ?_
   rintro e v5 ⟨El, el1, el2, rfl, hro, hb9⟩
   have HKc := Lib.hid (HKc.out.later hb9)
   have R := Lib.hid (RdT.later R.out hb9)
   have RW := Lib.hid (RW.out.later hb9)
   clear hb9
   clear c0 c1
   have RE := Lib.hid hro.out
   clear hro
   have HNE : Hid (el1 = lw.length) := (rd_len1 RE.out).symm
   have c0 := HKc.out.c0
   have c1 := HKc.out.c1
   go_wp2_with fail
   refine (refalike_any lw lw el1 wl1 El Wl el2 wl2 v5 (by have := HNE.out; have := HLN.out; omega) RE.out RW.out true (decide_eq_true rfl)).mono ?_
   rintro e v6 ⟨rfl, hb9⟩
   have HKc := Lib.hid (HKc.out.later hb9)
   have R := Lib.hid (RdT.later R.out hb9)
   have RW := Lib.hid (RW.out.later hb9)
   have RE := Lib.hid (RE.out.later hb9)
   clear hb9
   clear c0 c1
   have c0 := HKc.out.c0
   have c1 := HKc.out.c1
   go_wp2_with fail
   refine (shas_any t Ae Ak ne nk ce ck tx v6 z HZ.out L.out (by have := N.out; omega) R.out).mono ?_
   rintro e v7 ⟨rfl, hb9⟩
   have HKc := Lib.hid (HKc.out.later hb9)
   have R := Lib.hid (RdT.later R.out hb9)
   have RW := Lib.hid (RW.out.later hb9)
   have RE := Lib.hid (RE.out.later hb9)
   clear hb9
   clear c0 c1
   have c0 := HKc.out.c0
   have c1 := HKc.out.c1
   go_wp2_with fail
   refine (refless_any lw wl1 Wl wl2 tx v7 (by have := HNW.out; have := HLN.out; omega) RW.out).mono ?_
   rintro e v8 ⟨Ll, ll1, ll2, rfl, hro, hb9⟩
   have HKc := Lib.hid (HKc.out.later hb9)
   have R := Lib.hid (RdT.later R.out hb9)
   have RW := Lib.hid (RW.out.later hb9)
   have RE := Lib.hid (RE.out.later hb9)
   clear hb9
   clear c0 c1
   have hll : ll1 = (lessL lw tx).length := (rd_len1 hro.out).symm
   have fz : (z == decide ((ll1 : Int) < ((wl1 : Nat) : Int))) = true := by
    rw [HIN.out, hll, HNW.out]
    simp
   clear hro hll
   go_wp2_with fail
   go_ret
   exact ⟨by simpa using fz, HKc.out.below⟩
set_option maxRecDepth 100000 in
theorem lifted (os : Os) (started : os.Started) (H : Type) (enc : TypeId × Value → H) :
  ReturnsInHanded {} Tryz.checked os 5 .any (Rows.setElemsSpec.pre6 enc Tryz.prog Tryz.f5 Rows.setElemsRow.domain false) (Rows.setElemsSpec.post enc Tryz.prog Tryz.f5 false true false false) := by
 refine returnsInHanded_of_change_sized (C := Tryz.checked) own started (by kernel_rfl) Tryz.func5
  (ChangeSpec.witness6 (enc := enc) (C := Tryz.checked) false ⟨#[], #[.agg #[.slice none 0 0, .slice none 0 0], .string ByteArray.empty], []⟩ 8 (by kernel_rfl) (by kernel_rfl) (by kernel_rfl) (by kernel_rfl)) ?_
 intro W base args ds gs before hval0 hW _ hsz0 _
 have hval : ∀ (j : Nat) t v, Tryz.f5.params[j]? = some t → args[j]? = some v → Value.okWide Tryz.prog W .any base t v := hval0
 have hW' := hW
 obtain ⟨p, q, hA0, hV, rfl, hfz, hnd⟩ := hW
 have hA : DataW.TrodAll enc Tryz.prog W 0 (fun _ => true) true Tryz.f5.params.toList args.toList ds p := hA0
 rw [Tryz.params5] at hA hval
 obtain ⟨v0, v1, d0, d1, p0, p1, rfl, rfl, rfl, h0, h1⟩ := trodAll_two hA
 obtain ⟨rfl, rfl⟩ := trodVars_none hV
 have hsz : (DataW.weightsEach Tryz.prog (25 :: 9 :: _) (d0 :: d1 :: _)).all (· ≤ reachBytes) = true := hsz0
 obtain ⟨hw0, hsz⟩ := Tr.weights_head hsz
 obtain ⟨t0, ae0, ak0, ne0, nk0, ce0, ck0, rfl, hr0, hl0⟩ := Tr.treeV_of_trod (hval 0 25 v0 rfl rfl) h0 hw0
 obtain ⟨s1, rfl, rfl, rfl, hs1⟩ := Go.ChangeMaps.open_string Tryz.underlying9 (hval 1 9 v1 rfl rfl) h1
 refine (walk_any t0 ae0 ak0 ne0 nk0 ce0 ck0 s1 W hr0 hl0).mono fun e W' ⟨he, hb⟩ => ?_
 subst he
 exact ⟨_, rfl, law_post hW' (by kernel_rfl) rfl rfl rfl hb⟩
theorem proved : Rows.SetElemsSaid :=
 OpenClaim.holds_of_wide 5 Tryz.f5 rfl rfl rfl rfl rfl rfl rfl ⟨rfl, rfl, rfl, rfl, rfl⟩ rfl rfl rfl rfl rfl (by kernel_rfl) Tryz.func5 (by kernel_rfl)
  (of_decide_eq_true (by kernel_rfl)) (by unfold Func.isWrapper; first | (rw [if_pos (by decide +kernel)]; kernel_rfl) | (rw [if_neg (by decide +kernel)]; exact ⟨rfl, rfl⟩))
  (fun os started H enc _ => lifted os started H enc)
#print axioms proved
end lawSetElems
end Go.Proofs.YtemilfojnecldaaGreat
