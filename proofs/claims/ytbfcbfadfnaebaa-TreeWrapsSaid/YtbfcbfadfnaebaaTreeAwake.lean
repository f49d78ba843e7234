/- The law's own words: a leaf; awake. -/
import Derived.Test.YtbfcbfadfnaebaaTreeWrap
import Derived.Test.YtbfcbfadfnaebaaTreeGet
import Derived.Test.YtbfcbfadfnaebaaTreeSame
namespace Go.Proofs.Ytbfcbfadfnaebaa
open Go.ChangeShapes Go.WideShapes Go.ChangeAt Go.RowKit
namespace Tr
open Sp Rw
def leafT : T := .mk [⟨1, 2, ⟨#[120]⟩, 0⟩] []
def kA : ByteArray := ⟨#[97]⟩
def kB : ByteArray := ⟨#[98]⟩
theorem leaf_right : rightB 5 leafT = true := rightB_iff.2 ⟨by
    intro e he
    rw [List.mem_singleton.1 he]
    exact ⟨rfl, by decide, by decide, by decide⟩, by simp, by simp, by simp⟩
theorem leaf_levels : levels leafT = 1 := by unfold leafT; rw [levels_mk]; rfl
theorem leaf_nodes : nodes leafT = 1 := by unfold leafT; rw [nodes_mk]; rfl
theorem leaf_len : LenT reachBytes leafT := .mk (by unfold reachBytes; simp) (by simp) (by simp)
theorem leaf_some : ¬ (leafT.es = [] ∧ leafT.ks = []) := fun h => by cases h.1
theorem bad_ab : badB [kA, kB] = false := by rw [badB_iff]; intro k hk; simp at hk; rcases hk with rfl | rfl <;> exact ⟨by decide, by decide⟩
theorem leaf_err : wrapE leafT [kA, kB] = 0 := by
  unfold wrapE
  rw [leaf_right, bad_ab, if_neg (by simp), if_neg (by simp), if_neg leaf_some, leaf_levels, if_neg (by simp)]
theorem leaf_wrap : wrapR leafT [kA, kB] = .mk [] [(kA, .mk [] [(kB, leafT)])] := by
  unfold wrapR
  rw [if_pos ⟨leaf_err, leaf_some⟩]
  rfl
theorem right_wrap : rightB 5 (.mk [] [(kA, .mk [] [(kB, leafT)])]) = true := by
  have h := RightT.wrap (d := 1) (t := leafT) (by
    have := right_levels (rightB_iff.1 leaf_right)
    rwa [leaf_levels] at this) leaf_some (p := [kA, kB]) (badB_iff.1 bad_ab)
  exact rightB_iff.2 ((show RightT 3 _ from h).le (by omega))
theorem get_wrapped : getT (.mk [] [(kA, .mk [] [(kB, leafT)])]) [kA, kB] = leafT := get_wrap leafT [kA, kB]
theorem leaf_any (w : World) : Calls Try.prog 34 #[] w (TreeIs leafT w) := by
  have hro : RdO ((w.alloc (.cells #[.slice (some ⟨w.heap.size + 1, 0, none⟩) 1 1, .slice none 0 0] 25)).alloc (.cells #[.int .i64 1, .int .i64 2, .string ⟨#[120]⟩, .int .i64 0] 67)) (fun b => w.heap.size + 1 ≤ b) leafT ⟨some ⟨w.heap.size + 1, 0, none⟩, 1, 1⟩ ⟨none, 0, 0⟩ := by
    unfold leafT
    rw [rdO_mk]
    refine ⟨rfl, ⟨rfl, Nat.le_refl _, fun u hu => ?_, fun _ => ⟨w.heap.size + 1, 0, rfl, Nat.le_refl _, by simp, fun j => by go_simp, fun j u hu => ?_⟩⟩, rfl, [], RO.nil _ _ _ _ _, fun i hi => by simp at hi⟩
    · simp [entsC, entC] at hu
      rcases hu with rfl | rfl | rfl | rfl <;> rfl
    · have h := cell_of_row ((w.alloc (.cells #[.slice (some ⟨w.heap.size + 1, 0, none⟩) 1 1, .slice none 0 0] 25)).alloc (.cells #[.int .i64 1, .int .i64 2, .string ⟨#[120]⟩, .int .i64 0] 67)) (w.heap.size + 1) j #[.int .i64 1, .int .i64 2, .string ⟨#[120]⟩, .int .i64 0] 67 (0, 0) (by have := heap_alloc_new (w.alloc (.cells #[.slice (some ⟨w.heap.size + 1, 0, none⟩) 1 1, .slice none 0 0] 25)) (.cells #[.int .i64 1, .int .i64 2, .string ⟨#[120]⟩, .int .i64 0] 67); simpa using this)
      rw [Nat.zero_add, h]
      simpa [entsC, entC] using hu
  have HRO := Lib.hid hro
  clear hro
  go_enter Try.func34, Try.ntmps34
  go_wp2_with fail
  refine bodyPost_ret (v := .agg #[.slice (some ⟨w.heap.size + 1, 0, none⟩) 1 1, .slice none 0 0]) (by simp [results, Try.results34, go_sem]) rfl ⟨_, 1, 1, none, 0, 0, rfl, RdO.mono (fun b hb _ => by omega) _ HRO.out, ?_⟩
  exact ((Below.refl _ _).alloc (Nat.le_refl _) _).alloc (by simp) _
theorem rd_ab (w : World) : Rd (w.alloc (.cells #[.string kA, .string kB] 9)) (w.alloc (.cells #[.string kA, .string kB] 9)).heap.size 1 (some ⟨w.heap.size, 0, none⟩) 2 2 (strs [kA, kB]) :=
  ⟨rfl, Nat.le_refl _, strs_one _, fun _ => ⟨_, _, rfl, by simp, fun j u hu => by
    rw [Nat.zero_add, cell_of_row _ _ j _ _ (0, 0) (heap_alloc_new _ _)]
    simpa [strs] using hu⟩⟩
set_option maxRecDepth 100000 in
set_option maxHeartbeats 4000000 in
theorem awake_any (w : World) : Calls Try.prog 11 #[] w fun e w' => e = .returned (.bool true) ∧ Below w.heap.size w w' := by
  have hka : (⟨#[97]⟩ : ByteArray) = kA := rfl
  have hkb : (⟨#[98]⟩ : ByteArray) = kB := rfl
  have HA := Lib.hid hka
  have HBk := Lib.hid hkb
  clear hka hkb
  go_enter Try.func11, Try.ntmps11
  go_wp2_with fail
  refine (leaf_any _).mono ?_
  rintro e w1 ⟨Ae, ne, ce, Ak, nk, ck, rfl, hro, hb⟩
  have HB1 := Lib.hid hb
  have hal : Below w1.heap.size w1 (w1.alloc (.cells #[.string kA, .string kB] 9)) := Dt.box_below _ _ _
  have hw := wrap_any leafT Ae Ak ne nk ce ck [kA, kB] (some ⟨w1.heap.size, 0, none⟩) 2 2 (w1.alloc (.cells #[.string kA, .string kB] 9)) rfl (by omega) (rd_ab w1) leaf_len (by rw [leaf_nodes]; omega) (RdT.later hro.rd hal)
  rw [leaf_err, leaf_wrap] at hw
  have HW := Lib.hid hw
  have HB2 := Lib.hid (HB1.out.trans (hal.mono HB1.out.size))
  clear hb hro hw hal
  go_wp2_with fail
  rw [HA.out, HBk.out]
  refine HW.out.mono ?_
  rintro e w2 ⟨Ae2, ne2, ce2, Ak2, nk2, ck2, rfl, hro, hb⟩
  have HB3 := Lib.hid (HB2.out.trans (hb.mono HB2.out.size))
  have hrd := hro.rd
  have hlens := rd_lens hrd
  obtain rfl : nk2 = 1 := hlens.2.symm
  obtain ⟨b, o, rfl, hbb, hc⟩ := rd_kid hrd (by omega)
  obtain ⟨_, _, c0, _, _, _⟩ := hc 0 (by simp)
  have c0' : w2.cell? ⟨b, o, none⟩ = some (.string ⟨#[97]⟩) := by simpa [kA] using c0
  obtain ⟨q, hq⟩ : ∃ q, q = w2.heap.size := ⟨_, rfl⟩
  obtain ⟨w3, hw3⟩ : ∃ W, W = w2.alloc (.cells #[.slice Ae2 ne2 ce2, .slice (some ⟨b, o, none⟩) 1 ck2] 25) := ⟨_, rfl⟩
  have hb3 : Below w2.heap.size w2 w3 := by rw [hw3]; exact Dt.box_below _ _ _
  have HRX := Lib.hid (RdT.later hrd hb3)
  have HB4 := Lib.hid (HB3.out.trans (hb3.mono HB3.out.size))
  have hal : Below w3.heap.size w3 (w3.alloc (.cells #[.string kA, .string kB] 9)) := Dt.box_below _ _ _
  have hg := get_any (.mk [] [(kA, .mk [] [(kB, leafT)])]) Ae2 (some ⟨b, o, none⟩) ne2 1 ce2 ck2 (w3.alloc (.cells #[.string kA, .string kB] 9)) [kA, kB] (some ⟨w3.heap.size, 0, none⟩) 2 2 rfl (by omega) (rd_ab w3) (.mk (by simp) (by unfold reachBytes; simp) (by
    intro k hk
    rw [List.mem_singleton.1 hk]
    exact .mk (by simp) (by unfold reachBytes; simp) (by intro k hk; rw [List.mem_singleton.1 hk]; exact leaf_len))) (by
    rw [nodes_mk, List.map_cons, List.map_nil, nodes_mk, List.map_cons, List.map_nil, leaf_nodes]; simp) (RdT.later HRX.out hal)
  rw [right_wrap, if_pos rfl, get_wrapped] at hg
  have hs3 : w3.heap.size = w2.heap.size + 1 := by rw [hw3]; simp
  rw [hs3] at hg
  have HGT := Lib.hid hg
  have HB5 := Lib.hid (HB4.out.trans (hal.mono HB4.out.size))
  have HQ := Lib.hid hq
  have HW3 := Lib.hid hw3
  clear hs3 hb hro hrd hlens hc c0 hq hw3 hb3 hal hg
  go_wp2_with fail
  rw [HA.out, HBk.out, ← HW3.out]
  refine HGT.out.mono ?_
  rintro e w4 ⟨Ae4, ne4, ce4, Ak4, nk4, ck4, rfl, hro, hb⟩
  have HR4 := Lib.hid hro.rd
  have HB6 := Lib.hid (HB5.out.trans (hb.mono HB5.out.size))
  clear c0' hb hro
  go_wp2_with fail
  refine (leaf_any _).mono ?_
  rintro e w5 ⟨Ae5, ne5, ce5, Ak5, nk5, ck5, rfl, hro, hb⟩
  have HR4 := Lib.hid (RdT.later HR4.out hb)
  have HR5 := Lib.hid hro.rd
  have HB7 := Lib.hid (HB6.out.trans (hb.mono HB6.out.size))
  clear hb hro
  go_wp2_with fail
  refine (refsameT_any leafT leafT Ae4 Ak4 ne4 nk4 ce4 ck4 Ae5 Ak5 ne5 nk5 ce5 ck5 w5 (by rw [leaf_nodes]; omega) HR4.out HR5.out).mono ?_
  rw [eqB_yes rfl]
  rintro e w6 ⟨rfl, hb⟩
  have HB8 := Lib.hid (HB7.out.trans (hb.mono HB7.out.size))
  clear hb
  go_wp2_with fail
  go_ret
  exact ⟨rfl, HB8.out⟩
end Tr
end Go.Proofs.Ytbfcbfadfnaebaa
