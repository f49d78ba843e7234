/- Trees: entries, kids, all of it copied into new memory. -/
import Derived.Test.YtbfcbfadfnaebaaTreeOwn
import Derived.Test.YtbfcbfadfnaebaaTreeLevels
import Derived.Test.YtbfcbfadfnaebaaTreeSorted
namespace Go.Proofs.Ytbfcbfadfnaebaa
open Go.ChangeShapes Go.WideShapes Go.ChangeAt Go.RowKit
namespace Tr
open Sp Rw
theorem infoE : (Try.prog.info? 67).map (fun i => (i.zero, i.size, i.bytes)) = some (some (.agg #[.int .i64 0, .int .i64 0, .string ⟨#[]⟩, .int .i64 0]), 4, 40) := by kernel_rfl
theorem infoK : (Try.prog.info? 56).map (fun i => (i.zero, i.size, i.bytes)) = some (some (.agg #[.string ⟨#[]⟩, .slice none 0 0, .slice none 0 0]), 3, 64) := by kernel_rfl
theorem values_any (A : Option Addr) (n c : Nat) (w : World) : Calls Try.prog 73 #[.slice A n c] w fun e w' => e = .returned (.func (.func 89) #[] #[.pointer (some ⟨w.heap.size, 0, none⟩)]) ∧ w' = w.alloc (.cells #[.slice A n c] 39) := by
  go_enter Try.func73, Try.ntmps73
  go_wp2
  go_ret
  exact ⟨rfl, rfl⟩
open Classical in
/-- is it one of these? -/
noncomputable def inB (l : List ByteArray) (k : ByteArray) : Bool := decide (k ∈ l)
open Classical in
theorem inB_iff {l : List ByteArray} {k : ByteArray} : inB l k = true ↔ k ∈ l := decide_eq_true_iff
theorem inB_nil (k : ByteArray) : inB [] k = false := by
  cases h : inB [] k with
  | false => rfl
  | true => exact absurd (inB_iff.1 h) (by simp)
theorem keepK_succ (f : ByteArray → Bool) {ks : List (ByteArray × T)} {k : Nat} (h : k < ks.length) : keepK f (ks.take (k + 1)) = if f (ks[k]).1 then keepK f (ks.take k) ++ [ks[k]] else keepK f (ks.take k) := by
  unfold keepK
  rw [List.take_succ_eq_append_getElem h, List.filter_append, List.filter_cons, List.filter_nil]
  split <;> simp
theorem keepK_all (ks : List (ByteArray × T)) {f : ByteArray → Bool} (h : ∀ k, f k = true) : keepK f ks = ks := by
  unfold keepK
  rw [List.filter_eq_self]
  exact fun k _ => h k.1
theorem keepK_len (f : ByteArray → Bool) (ks : List (ByteArray × T)) (k : Nat) : (keepK f (ks.take k)).length ≤ k := by
  unfold keepK
  exact Nat.le_trans (List.length_filter_le _ _) (by rw [List.length_take]; omega)
set_option maxHeartbeats 800000 in
theorem entries_any (es : List E) (ks : List (ByteArray × T)) (Ae Ak : Option Addr) (ne nk ce ck : Nat) (w : World) (hn : ne ≤ 900000) (hr : RdT w w.heap.size (.mk es ks) ⟨Ae, ne, ce⟩ ⟨Ak, nk, ck⟩) :
    Calls Try.prog 57 #[.agg #[.slice Ae ne ce, .slice Ak nk ck]] w fun e w' => ∃ A' c', e = .returned (.slice A' ne c') ∧ Own w' w.heap.size 67 4 A' ne c' (entsC es) ∧ Below w.heap.size w w' := by
  have hbx : Below w.heap.size w (w.alloc (.cells #[.slice Ae ne ce, .slice Ak nk ck] 25)) := Dt.box_below _ _ _
  have hr2 := hr
  rw [rdT_mk] at hr2
  have hre := (hr2.2.1.below hbx).more hbx.size
  have hle := hr2.1
  clear hr hr2
  dsimp only at hre hle
  obtain ⟨W, hW⟩ : ∃ W, W = w.alloc (.cells #[.slice Ae ne ce, .slice Ak nk ck] 25) := ⟨_, rfl⟩
  rw [← hW] at hre hbx
  obtain ⟨i0, hi0, hz0, hz1, hz2⟩ := info_of infoE
  obtain ⟨v', w', r1, r2, r3, _⟩ := run_app (P := Try.prog) W w.heap.size 22 22 67 i0 _ 4 40 Try.underlying22 hi0 hz0 hz1 hz2 rfl (by omega) (v := .slice none 0 0) (n := 0) (xs := []) (World.ownsRow_nil _ _ _ _) hre (by omega) (by omega) hbx.size
  rw [List.nil_append, Nat.zero_add] at r2
  obtain ⟨A', c', rfl, ho⟩ := Own.of_row r2 (fun u hu => hre.one u hu)
  have HO := Lib.hid ho
  have HB := Lib.hid (hbx.grown r3 hbx.size (fun k hk => by simp [Value.ownBlock] at hk))
  have Hrun := Lib.hid r1
  have HW := Lib.hid hW
  clear hre r1 r2 r3 ho hbx hW hle
  go_enter Try.func57, Try.ntmps57
  go_wp2_with (at_builtin; rw [← HW.out]; refine Lib.wpList_append_run _ rfl _ _ _ _ rfl _ _ rfl rfl _ _ Hrun.out ?_)
  go_ret
  exact ⟨A', c', rfl, HO.out, HB.out⟩
/-- what copied answers -/
def CopyIs (t : T) (ne nk : Nat) (w : World) (e : Ending) (w' : World) : Prop := ∃ Ae ce Ak ck, e = .returned (.agg #[.slice Ae ne ce, .slice Ak nk ck]) ∧ RdO w' (fun b => w.heap.size ≤ b) t ⟨Ae, ne, ce⟩ ⟨Ak, nk, ck⟩ ∧ Below w.heap.size w w'
/-- what kids answers -/
def KidsIs (f : ByteArray → Bool) (ks : List (ByteArray × T)) (w : World) (e : Ending) (w' : World) : Prop := ∃ base A m c kr, e = .returned (.slice A m c) ∧ w.heap.size ≤ base ∧ base ≤ w'.heap.size ∧ KidRow w' base 56 A m c (keepK f ks) kr ∧ Below w.heap.size w w'
set_option maxRecDepth 100000 in
set_option maxHeartbeats 4000000 in
theorem kids_of (es : List E) (ks : List (ByteArray × T)) (ih : ∀ k ∈ ks, ∀ (Ae Ak : Option Addr) (ne nk ce ck : Nat) (w : World), nodes k.2 ≤ 100000 → RdT w w.heap.size k.2 ⟨Ae, ne, ce⟩ ⟨Ak, nk, ck⟩ → Calls Try.prog 46 #[.agg #[.slice Ae ne ce, .slice Ak nk ck]] w (CopyIs k.2 ne nk w))
    (l : List ByteArray) (A : Option Addr) (n c : Nat) (am : Bool) (Ae Ak : Option Addr) (ne nk ce ck : Nat) (w : World) (hl : l.length = n) (hn5 : n ≤ 100000) (hrk : Rd w w.heap.size 1 A n c (strs l)) (hn : nodes (.mk es ks) ≤ 100000) (hr : RdT w w.heap.size (.mk es ks) ⟨Ae, ne, ce⟩ ⟨Ak, nk, ck⟩) :
    Calls Try.prog 56 #[.agg #[.slice Ae ne ce, .slice Ak nk ck], .slice A n c, .bool am] w (KidsIs (fun k => inB l k == am) ks w) := by
  obtain ⟨hle, hlk⟩ := rd_lens hr
  have HR := Lib.hid hr
  have HLE := Lib.hid hle
  have HLK := Lib.hid hlk
  clear hle hlk hr
  have HIH := Lib.hid ih
  have HN := Lib.hid hn
  have HL := Lib.hid hl
  have hnk : nk ≤ 100000 := by have := nodes_es es ks; have := HLK.out; omega
  have HRK := Lib.hid hrk
  obtain ⟨f, hf⟩ : ∃ f : ByteArray → Bool, f = fun k => inB l k == am := ⟨_, rfl⟩
  rw [← hf]
  have HF := Lib.hid hf
  clear ih hn hl hrk hf
  obtain ⟨g, hg⟩ : ∃ g, g = w.heap.size := ⟨_, rfl⟩
  have HK := Lib.hid (tree_box w Ae Ak ne nk ce ck)
  rw [← hg] at HK
  obtain ⟨W0, hW0⟩ : ∃ W, W = w.alloc (.cells #[.slice Ae ne ce, .slice Ak nk ck] 25) := ⟨_, rfl⟩
  rw [← hW0] at HK
  have HG := Lib.hid hg
  have HW0 := Lib.hid hW0
  have k0 := HK.out.c0
  have k1 := HK.out.c1
  clear hg hW0
  go_enter Try.func56, Try.ntmps56
  go_wp2_with fail
  rw [← HG.out, ← HW0.out]
  refine (values_any A n c W0).mono ?_
  rintro e w1 ⟨rfl, hw1⟩
  have hb1 : Below W0.heap.size W0 w1 := by rw [hw1]; exact (Below.refl _ _).alloc (Nat.le_refl _) _
  have HK1 := Lib.hid (HK.out.later hb1)
  have hbx : w1.cell? ⟨W0.heap.size, 0, none⟩ = some (.slice A n c) := by rw [hw1]; go_simp
  have HSO := Lib.hid (sorted_any W0.heap.size n c A l w1 HL.out (by omega) hbx ((HRK.out.below HK1.out.below).more HK1.out.below.size))
  clear hb1 hw1 hbx k0 k1
  go_wp2_with fail
  refine HSO.out.mono ?_
  rintro e w2 ⟨As, cs, rfl, hos, hb2⟩
  have HK2 := Lib.hid (HK1.out.later hb2)
  have HSR := Lib.hid hos.rd
  have k0 := HK2.out.c0
  have k1 := HK2.out.c1
  clear hos hb2 HSO
  go_wp2_with fail
  go_loopw [8, 19] (fun s i wr => ∃ (k : Nat) (Ax : Option Addr) (m cx : Nat) (kr : List (ByteArray × SV × SV)), k ≤ nk ∧ i = .int .i64 k ∧ s = .slice Ax m cx ∧ m ≤ k ∧ Hid (KidRow wr w2.heap.size 56 Ax m cx (keepK f (ks.take k)) kr) ∧ Hid (Below w2.heap.size w2 wr)) (fun _ i _ => nk - (intOf i).toNat)
  case atStart => exact ⟨0, none, 0, 0, [], by omega, rfl, rfl, by omega, KidRow.nil _ _ _, Below.refl _ _⟩
  case round =>
    obtain ⟨k, Ax, m, cx, kr, hk, rfl, rfl, hmk, HKR, HBW⟩ := hrel
    have HKW := Lib.hid (HK2.out.later HBW.out)
    clear k0 k1
    have k0 := HKW.out.c0
    have k1 := HKW.out.c1
    by_cases hlt : k < nk
    · have hkl : k < ks.length := by rw [HLK.out]; exact hlt
      obtain ⟨b, o, rfl, hb, hc⟩ := rd_kid HR.out (by omega)
      obtain ⟨⟨Ae', ne', ce'⟩, ⟨Ak', nk', ck'⟩, c0, c1, c2, hkid⟩ := hc k hkl
      dsimp only at c0 c1 c2
      have c0 := (HKW.out.below.cell (p := ⟨b, o + k * 3, none⟩) hb).trans c0
      have c1 := (HKW.out.below.cell (p := ⟨b, o + k * 3 + 1, none⟩) hb).trans c1
      have c2 := (HKW.out.below.cell (p := ⟨b, o + k * 3 + 2, none⟩) hb).trans c2
      obtain ⟨key, hkey⟩ : ∃ key, key = (ks[k]).1 := ⟨_, rfl⟩
      rw [← hkey] at c0
      clear hc
      have hkeq : ks[k] = (key, (ks[k]).2) := by rw [hkey]
      have HKEY := Lib.hid hkeq
      clear hkeq
      obtain ⟨p, hp⟩ : ∃ p, p = wr.heap.size := ⟨_, rfl⟩
      obtain ⟨W1, hW1⟩ : ∃ W, W = wr.alloc (.cells #[.string key, .slice Ae' ne' ce', .slice Ak' nk' ck'] 56) := ⟨_, rfl⟩
      have hb1 : Below wr.heap.size wr W1 := by rw [hW1]; exact Dt.box_below _ _ _
      have hk1 := HKW.out.later hb1
      have hrd1 := RdT.more hk1.below.size _ (RdT.below hkid hk1.below)
      have HK1 := Lib.hid hk1
      have HW1 := Lib.hid hW1
      clear hW1 hb1 hkid
      have p0 : W1.cell? ⟨p, 0, none⟩ = some (.string key) := by rw [HW1.out, hp]; go_simp
      have p1 : W1.cell? ⟨p, 1, none⟩ = some (.slice Ae' ne' ce') := by rw [HW1.out, hp]; go_simp
      have p2 : W1.cell? ⟨p, 2, none⟩ = some (.slice Ak' nk' ck') := by rw [HW1.out, hp]; go_simp
      have hb1 : Below wr.heap.size wr W1 := by rw [HW1.out]; exact Dt.box_below _ _ _
      have HB1 := Lib.hid (HBW.out.trans (hb1.mono HBW.out.size))
      have HKR1 := Lib.hid (HKR.out.later hb1)
      have HKP := Lib.hid ((((HK1.out.cons_of p2).cons_of p1).cons_of p0))
      have HP := Lib.hid hp
      have hown : (Value.slice Ax m cx).ownBlock ≠ some p := fun e => by have := (HKR.out.own.row.lt p e).2; omega
      have HOWN := Lib.hid hown
      have HSE := Lib.hid (searchS_any (sortS l) n As cs key W1 (by rw [sortS_len]; exact HL.out) (by omega) ((HSR.out.below (HB1.out)).more HB1.out.size) (sortS_rise l))
      have HRD := Lib.hid hrd1
      clear hrd1 hkey hp hb1 hown HBW
      go_wp2_with fail
      rw [← HP.out, ← HW1.out]
      refine HSE.out.mono ?_
      rintro e w3 ⟨i3, z, rfl, ⟨hz1, hz2⟩, hb3⟩
      have HZ : Hid (z = inB l key) := by
        unfold Hid
        cases z with
        | true => exact (inB_iff.2 (sortS_mem.1 (hz1 rfl))).symm
        | false =>
          cases h : inB l key with
          | false => rfl
          | true => exact absurd (sortS_mem.2 (inB_iff.1 h)) (hz2 rfl)
      have HB3 := Lib.hid (HB1.out.trans (hb3.mono HB1.out.size))
      have HKR3 := Lib.hid (HKR1.out.later hb3)
      have HKc := Lib.hid (HKP.out.later hb3)
      have hks := keepK_succ f hkl
      rw [HKEY.out] at hks
      dsimp only at hks
      have HFK : Hid (f key = (z == am)) := by unfold Hid; rw [HF.out, HZ.out]
      have HB13 := Lib.hid hb3
      clear hz1 hz2 hb3 p0 p1 p2 HKR HKR1 HB1
      have s0 := HKc.out.c0
      have s1 := HKc.out.c1
      have s2 := HKc.out.c2
      by_cases hzb : z = am
      · subst hzb
        have hft : f key = true := by rw [HFK.out]; exact beq_self_eq_true z
        rw [hft, if_pos rfl] at hks
        have HKS := Lib.hid hks
        clear hks hft
        have hsz3 : w3.heap.size = w3.drew.heap.size := rfl
        go_wp2_with fail
        have HB3D : Hid (Below W1.heap.size W1 w3.drew) := HB13.out.drew
        have HB3S : Hid (W1.heap.size ≤ w3.drew.heap.size) := HB13.out.size
        refine wp_region_held_drew (S := fun W => W.cell? ⟨p, 0, none⟩ = some (.string key) ∧ W.cell? ⟨p, 1, none⟩ = some (.slice Ae' ne' ce') ∧ W.cell? ⟨p, 2, none⟩ = some (.slice Ak' nk' ck')) (by kernel_rfl) (by go_keep) (fun hHeld => ?_)
        refine wpAnyH_take (i := 0) (oi := ⟨some 33, _, _, _, _, _⟩) (v := ?_) rfl (by kernel_rfl) (by kernel_rfl) (by kernel_rfl) (fun _ _ _ h => h) (Or.inl ⟨by kernel_rfl, ?_⟩) (by assumption) ?_
        rotate_left
        (intro wz hSw; (try dsimp only at hSw); go_simp; try with_reducible rfl)
        try simp only [Act.put, List.setIfInBounds_toArray, List.set_cons_zero, List.set_cons_succ]
        refine wpAnyH_take (i := 1) (oi := ⟨some 34, _, _, _, _, _⟩) (v := ?_) rfl (by kernel_rfl) (by kernel_rfl) (by kernel_rfl) (fun _ _ _ h => h) (Or.inl ⟨by kernel_rfl, ?_⟩) (by assumption) ?_
        rotate_left
        (intro wz hSw; (try dsimp only at hSw); go_simp; try with_reducible rfl)
        try simp only [Act.put, List.setIfInBounds_toArray, List.set_cons_zero, List.set_cons_succ]
        refine wpAnyH_take (i := 2) (oi := ⟨some 35, _, _, _, _, _⟩) (v := ?_) rfl (by kernel_rfl) (by kernel_rfl) (by kernel_rfl) (fun _ _ _ h => h) (Or.inl ⟨by kernel_rfl, ?_⟩) (by assumption) ?_
        rotate_left
        (intro wz hSw; (try dsimp only at hSw); go_simp; try with_reducible rfl)
        try simp only [Act.put, List.setIfInBounds_toArray, List.set_cons_zero, List.set_cons_succ]
        refine wpAnyH_take (i := 3) (oi := ⟨some 36, _, _, _, _, _⟩) (v := ?_) rfl (by kernel_rfl) (by kernel_rfl) (by kernel_rfl) (fun _ _ _ h => h) (Or.inl ⟨by kernel_rfl, ?_⟩) (by assumption) ?_
        rotate_left
        (intro wz hSw; (try dsimp only at hSw); go_simp; try with_reducible rfl)
        try simp only [Act.put, List.setIfInBounds_toArray, List.set_cons_zero, List.set_cons_succ]
        refine wpAnyH_take (i := 4) (oi := ⟨some 37, _, _, _, _, _⟩) (v := ?_) rfl (by kernel_rfl) (by kernel_rfl) (by kernel_rfl) (fun _ _ _ h => h) (Or.inl ⟨by kernel_rfl, ?_⟩) (by assumption) ?_
        rotate_left
        (intro wz hSw; (try dsimp only at hSw); go_simp; try with_reducible rfl)
        try simp only [Act.put, List.setIfInBounds_toArray, List.set_cons_zero, List.set_cons_succ]
        refine wpAnyH_ready (rs := [5]) (by kernel_rfl) (by simp) ?_
        refine AllReadyH.cons (o := ⟨some 38, _, _, _, _, _⟩) rfl (fun K hK => ?_) AllReadyH.nil
        go_simp
        (go_at_call 46; refine (HIH.out _ (List.getElem_mem hkl) Ae' Ak' ne' nk' ce' ck' w3.drew (Nat.le_trans (nodes_kid (List.getElem_mem hkl)) HN.out) (RdT.more HB3S.out _ (RdT.below HRD.out HB3D.out))).mono ?_)
        rintro e w4 ⟨Ae4, ce4, Ak4, ck4, rfl, hro, hb4⟩
        have hb4' : Below w3.heap.size w3 w4 := ((Below.refl w3.heap.size w3).drew).trans hb4
        have HKc := Lib.hid (HKc.out.later hb4')
        have HKR4 := HKR3.out.later hb4'
        have hu : RdO w4 (fun b => w2.heap.size ≤ b ∧ (Value.slice Ax m cx).ownBlock ≠ some b) (ks[k]).2 ⟨Ae4, ne', ce4⟩ ⟨Ak4, nk', ck4⟩ := RdO.mono (fun b hb _ => ⟨Nat.le_trans HB3.out.size hb, fun e => by have h1 := (HKR3.out.own.row.lt b e).2; have h2 : w3.drew.heap.size ≤ b := hb; have h3 : w3.drew.heap.size = w3.heap.size := rfl; omega⟩) _ hro
        obtain ⟨A5, c5, w5, r1, HKR5, hb5, hblk⟩ := KidRow.push (k := (key, ⟨Ae4, ne', ce4⟩, ⟨Ak4, nk', ck4⟩)) Try.underlying23 infoK rfl (by omega) HKR4 w4.heap.size rfl (Nat.le_trans HB3.out.size hb4'.size) hu (by omega) #[.string key, .slice Ae4 ne' ce4, .slice Ak4 nk' ck4] rfl
        have t0 := HKc.out.c0
        have t1 := HKc.out.c1
        have t2 := HKc.out.c2
        have hpl : p < w4.heap.size := World.block_lt_of_cell? w4 _ t0
        have u0 : w5.cell? ⟨p, 0, none⟩ = _ := (World.cell?_of_block (a := ⟨p, 0, none⟩) (hblk p HOWN.out hpl)).trans t0
        have u1 : w5.cell? ⟨p, 1, none⟩ = _ := (World.cell?_of_block (a := ⟨p, 1, none⟩) (hblk p HOWN.out hpl)).trans t1
        have u2 : w5.cell? ⟨p, 2, none⟩ = _ := (World.cell?_of_block (a := ⟨p, 2, none⟩) (hblk p HOWN.out hpl)).trans t2
        have Hrun := Lib.hid r1
        have HU := Lib.hid (And.intro u0 (And.intro u1 u2))
        have HKR5' : Hid (KidRow w5 w2.heap.size 56 A5 (m + 1) c5 (keepK f (ks.take (k + 1))) (kr ++ [(key, ⟨Ae4, ne', ce4⟩, ⟨Ak4, nk', ck4⟩)])) := by unfold Hid; rw [HKS.out]; exact HKR5
        have HB5 := Lib.hid ((HB3.out.trans (hb4'.mono HB3.out.size)).trans hb5)
        clear hro hb4 hb4' hu r1 HKR5 hb5 hblk u0 u1 u2 hpl HKR4
        refine hK.out _ _ ?_ (fun hHeld2 => ?_)
        · exact ⟨t0, t1, t2⟩
        clear hK K hHeld
        have hHeld := hHeld2
        clear hHeld2
        try simp only [Act.put, List.setIfInBounds_toArray, List.set_cons_zero, List.set_cons_succ]
        refine wpAnyH_take (i := 6) (oi := ⟨some 39, _, _, _, _, _⟩) (v := ?_) rfl (by kernel_rfl) (by kernel_rfl) (by kernel_rfl) (fun _ _ _ h => h) (Or.inl ⟨by kernel_rfl, ?_⟩) (by assumption) ?_
        rotate_left
        (intro wz hSw; (try dsimp only at hSw); go_simp; try with_reducible rfl)
        try simp only [Act.put, List.setIfInBounds_toArray, List.set_cons_zero, List.set_cons_succ]
        refine wpAnyH_ready (rs := [7]) (by kernel_rfl) (by simp) ?_
        refine AllReadyH.cons (o := ⟨some 40, _, _, _, _, _⟩) rfl (fun K hK => ?_) AllReadyH.nil
        go_simp
        refine hK.out _ _ ?_ (fun hHeld2 => ?_)
        · (try dsimp only); go_keep
        clear hK K hHeld
        have hHeld := hHeld2
        clear hHeld2
        try simp only [Act.put, List.setIfInBounds_toArray, List.set_cons_zero, List.set_cons_succ]
        refine wpAnyH_ready (rs := [8]) (by kernel_rfl) (by simp) ?_
        refine AllReadyH.cons (o := ⟨some 41, _, _, _, _, _⟩) rfl (fun K hK => ?_) AllReadyH.nil
        refine upon_append _ _ _ rfl rfl rfl Hrun.out ?_
        refine hK.out _ _ ?_ (fun hHeld2 => ?_)
        · exact HU.out
        clear hK K hHeld
        have hHeld := hHeld2
        clear hHeld2
        try simp only [Act.put, List.setIfInBounds_toArray, List.set_cons_zero, List.set_cons_succ]
        refine wpAnyH_take (i := 9) (oi := ⟨some 8, _, _, _, _, _⟩) (v := ?_) rfl (by kernel_rfl) (by kernel_rfl) (by kernel_rfl) (fun _ _ _ h => h) (Or.inl ⟨by kernel_rfl, ?_⟩) (by assumption) ?_
        rotate_left
        (intro wz hSw; (try dsimp only at hSw); go_simp; try with_reducible rfl)
        try simp only [Act.put, List.setIfInBounds_toArray, List.set_cons_zero, List.set_cons_succ]
        refine wpAnyH_done (by kernel_rfl) ?_ _
        clear t0 t1 t2 s0 s1 s2 Hrun hHeld
        go_wp2_with fail
        go_roundw
        case rel => exact ⟨k + 1, A5, m + 1, c5, _, by omega, by go_num, rfl, by omega, HKR5'.out, HB5.out⟩
        case measure => simp [intOf]; omega
      · have hft : f key = false := by rw [HFK.out]; exact beq_eq_false_iff_ne.2 hzb
        rw [hft, if_neg (by simp)] at hks
        have HKS := Lib.hid hks
        have fzb : (z == am) = false := beq_eq_false_iff_ne.2 hzb
        have HKR4 : Hid (KidRow w3 w2.heap.size 56 Ax m cx (keepK f (ks.take (k + 1))) kr) := by unfold Hid; rw [HKS.out]; exact HKR3.out
        clear hks hft hzb
        go_wp2_with fail
        go_roundw
        case rel => exact ⟨k + 1, Ax, m, cx, kr, by omega, by go_num, rfl, by omega, HKR4.out, HB3.out⟩
        case measure => simp [intOf]; omega
    · obtain rfl : k = nk := by omega
      have hall : ks.take k = ks := List.take_of_length_le (by rw [HLK.out]; omega)
      have HKR4 : Hid (KidRow wr w2.heap.size 56 Ax m cx (keepK f ks) kr) := by have := HKR.out; rwa [hall] at this
      clear hall
      go_wp2_with fail
      go_ret
      exact ⟨w2.heap.size, Ax, m, cx, kr, rfl, HK2.out.below.size, HBW.out.size, HKR4.out, HKW.out.below⟩
set_option maxRecDepth 100000 in
set_option maxHeartbeats 4000000 in
theorem copied_any : ∀ (t : T) (Ae Ak : Option Addr) (ne nk ce ck : Nat) (w : World), nodes t ≤ 100000 → RdT w w.heap.size t ⟨Ae, ne, ce⟩ ⟨Ak, nk, ck⟩ → Calls Try.prog 46 #[.agg #[.slice Ae ne ce, .slice Ak nk ck]] w (CopyIs t ne nk w) := by
  intro t
  induction t using T.ind with
  | h es ks ih =>
    intro Ae Ak ne nk ce ck w hn hr
    obtain ⟨hle, hlk⟩ := rd_lens hr
    have HR := Lib.hid hr
    have HLE := Lib.hid hle
    have HLK := Lib.hid hlk
    clear hle hlk hr
    have HKO := Lib.hid (fun (w : World) => kids_of es ks ih [] none 0 0 false Ae Ak ne nk ce ck w rfl (by omega) (Rd.nil _) hn)
    have hne : ne ≤ 900000 := by have := nodes_es es ks; have := HLE.out; omega
    obtain ⟨g, hg⟩ : ∃ g, g = w.heap.size := ⟨_, rfl⟩
    have HK := Lib.hid (tree_box w Ae Ak ne nk ce ck)
    rw [← hg] at HK
    obtain ⟨W0, hW0⟩ : ∃ W, W = w.alloc (.cells #[.slice Ae ne ce, .slice Ak nk ck] 25) := ⟨_, rfl⟩
    rw [← hW0] at HK
    have HG := Lib.hid hg
    have HW0 := Lib.hid hW0
    have k0 := HK.out.c0
    have k1 := HK.out.c1
    clear hg hW0
    obtain ⟨q, hq⟩ : ∃ q, q = W0.heap.size := ⟨_, rfl⟩
    obtain ⟨W1, hW1⟩ : ∃ W, W = W0.alloc (.cells #[.slice none 0 0, .slice none 0 0] 25) := ⟨_, rfl⟩
    have hb1 : Below W0.heap.size W0 W1 := by rw [hW1]; exact Dt.box_below _ _ _
    have q0 : W1.cell? ⟨q, 0, none⟩ = some (.slice none 0 0) := by rw [hW1, hq]; go_simp
    have q1 : W1.cell? ⟨q, 1, none⟩ = some (.slice none 0 0) := by rw [hW1, hq]; go_simp
    have hfr : Free q W1 := ⟨by rw [hW1, hq]; simp, fun j => by rw [hW1, hq]; go_simp⟩
    have HKc := Lib.hid ((((HK.out.later hb1).cons_of q1).cons_of q0)).drew
    have HFR := Lib.hid hfr.drew
    have HQ : Hid (q = g + 1) := by unfold Hid; rw [hq, HW0.out, HG.out]; simp
    have hgW : g < W0.heap.size := World.block_lt_of_cell? W0 _ HK.out.c0
    have hgq : g ≠ q := by omega
    have hgq2 : ¬ q = g := by omega
    have hqw : w.heap.size < q := by have := HG.out; omega
    have HW1 := Lib.hid hW1
    have s0 : W1.cell? ⟨g, 0, none⟩ = _ := (hb1.cell (p := ⟨g, 0, none⟩) hgW).trans HK.out.c0
    have s1 : W1.cell? ⟨g, 1, none⟩ = _ := (hb1.cell (p := ⟨g, 1, none⟩) hgW).trans HK.out.c1
    have HKW1 : Hid (w.heap.size ≤ W1.heap.size) := HKc.out.below.size
    have HFQ : Hid (q < W1.heap.size) := hfr.1
    clear hq hW1 hb1 hfr q0 q1 k0 k1 hn
    go_enter Try.func46, Try.ntmps46
    go_wp2_with fail
    rw [← HG.out, ← HW0.out, ← HQ.out, ← HW1.out]
    refine wp_region_held_drew (S := fun W => W.cell? ⟨g, 0, none⟩ = some (.slice Ae ne ce) ∧ W.cell? ⟨g, 1, none⟩ = some (.slice Ak nk ck)) (by kernel_rfl) (by go_keep) (fun hHeld => ?_)
    refine wpAnyH_take (i := 0) (oi := ⟨some 3, _, _, _, _, _⟩) (v := ?_) rfl (by kernel_rfl) (by kernel_rfl) (by kernel_rfl) (fun _ _ _ h => h) (Or.inl ⟨by kernel_rfl, ?_⟩) (by assumption) ?_
    rotate_left
    (intro wz hSw; (try dsimp only at hSw); go_simp; try with_reducible rfl)
    try simp only [Act.put, List.setIfInBounds_toArray, List.set_cons_zero, List.set_cons_succ]
    refine wpAnyH_take (i := 2) (oi := ⟨some 5, _, _, _, _, _⟩) (v := ?_) rfl (by kernel_rfl) (by kernel_rfl) (by kernel_rfl) (fun _ _ _ h => h) (Or.inl ⟨by kernel_rfl, ?_⟩) (by assumption) ?_
    rotate_left
    (intro wz hSw; (try dsimp only at hSw); go_simp; try with_reducible rfl)
    try simp only [Act.put, List.setIfInBounds_toArray, List.set_cons_zero, List.set_cons_succ]
    refine wpAnyH_ready (rs := [1]) (by kernel_rfl) (by simp) ?_
    refine AllReadyH.cons (o := ⟨some 4, _, _, _, _, _⟩) rfl (fun K hK => ?_) AllReadyH.nil
    go_simp
    (go_at_call 57; refine (entries_any es ks Ae Ak ne nk ce ck _ hne (RdT.more HKc.out.below.size _ (RdT.below HR.out HKc.out.below))).mono ?_)
    rintro e w2 ⟨A2, c2, rfl, ho2, hb2⟩
    have HKc := Lib.hid (HKc.out.later hb2)
    have HFR := Lib.hid (HFR.out.later hb2)
    have HO2 := Lib.hid (RO.of_own ho2)
    have hbs2 := hb2.size
    clear ho2 hb2
    refine hK.out _ _ ?_ (fun hHeld2 => ?_)
    · exact ⟨HKc.out.c2, HKc.out.c3⟩
    clear hK K hHeld
    have hHeld := hHeld2
    clear hHeld2
    try simp only [Act.put, List.setIfInBounds_toArray, List.set_cons_zero, List.set_cons_succ]
    refine wpAnyH_ready (rs := [3]) (by kernel_rfl) (by simp) ?_
    refine AllReadyH.cons (o := ⟨some 6, _, _, _, _, _⟩) rfl (fun K hK => ?_) AllReadyH.nil
    go_simp
    (go_at_call 56; refine (HKO.out _ (RdT.more HKc.out.below.size _ (RdT.below HR.out HKc.out.below))).mono ?_)
    rintro e w3 ⟨base, A3, m3, c3, kr, rfl, hbs1, hbs3, hkr, hb3⟩
    have HKc := Lib.hid (HKc.out.later hb3)
    have HFR := Lib.hid (HFR.out.later hb3)
    have hO3 := HO2.out.keep hb3.size (fun b _ hlt => hb3.block b hlt)
    have hsz : W1.drew.heap.size = W1.heap.size := rfl
    have hwW1 : w.heap.size ≤ W1.heap.size := HKW1.out
    have hall : keepK (fun k => inB [] k == false) ks = ks := keepK_all ks (fun k => by rw [inB_nil]; rfl)
    rw [hall] at hkr
    have hm3 : m3 = nk := by rw [← hkr.len, HLK.out]
    subst hm3
    have HT := Lib.hid (hkr.tree (ok := fun b => w.heap.size ≤ b ∧ b ≠ q) (fun b hb hlt => ⟨by omega, fun e => by have := HFQ.out; omega⟩) (es := es) (se := ⟨A2, ne, c2⟩) HLE.out (hO3.mono (fun b hb _ => ⟨by omega, fun e => by have := HFQ.out; omega⟩)))
    have t0 := HKc.out.c0
    have t1 := HKc.out.c1
    have t2 := HKc.out.c2
    have t3 := HKc.out.c3
    have m0 := HFR.out.2 0
    have m1 := HFR.out.2 1
    clear hkr hb3 hO3 hall
    refine hK.out _ _ ?_ (fun hHeld2 => ?_)
    · exact ⟨t2, t3⟩
    clear hK K hHeld
    have hHeld := hHeld2
    clear hHeld2
    try simp only [Act.put, List.setIfInBounds_toArray, List.set_cons_zero, List.set_cons_succ]
    refine wpAnyH_take (i := 4) (oi := ⟨some 7, _, _, _, _, _⟩) (v := ?_) rfl (by kernel_rfl) (by kernel_rfl) (by kernel_rfl) (fun _ _ _ h => h) (Or.inl ⟨by kernel_rfl, ?_⟩) (by assumption) ?_
    rotate_left
    (intro wz hSw; (try dsimp only at hSw); go_simp; try with_reducible rfl)
    try simp only [Act.put, List.setIfInBounds_toArray, List.set_cons_zero, List.set_cons_succ]
    refine wpAnyH_ready (rs := [5]) (by kernel_rfl) (by simp) ?_
    refine AllReadyH.cons (o := ⟨none, _, _, _, _, _⟩) rfl (fun K hK => ?_) AllReadyH.nil
    go_simp
    refine hK.out _ _ ?_ (fun hHeld2 => ?_)
    · (try dsimp only); go_keep
    clear hK K hHeld
    have hHeld := hHeld2
    clear hHeld2
    try simp only [Act.put, List.setIfInBounds_toArray, List.set_cons_zero, List.set_cons_succ]
    refine wpAnyH_done (by kernel_rfl) ?_ _
    obtain ⟨w4, hw4⟩ : ∃ W, W = (w3.setCell ⟨q, 0, none⟩ (.slice A2 ne c2)).setCell ⟨q, 1, none⟩ (.slice A3 m3 c3) := ⟨_, rfl⟩
    have hT4 : RdO w4 (fun b => w.heap.size ≤ b) (.mk es ks) ⟨A2, ne, c2⟩ ⟨A3, m3, c3⟩ := by
      rw [hw4]
      refine RdO.mono (fun b hb _ => hb.1) _ (RdO.keep (by simp [World.setCell]) (fun b hb hlt => ?_) _ HT.out)
      exact (Below.heap_setCell _ ⟨q, 1, none⟩ _ b (fun e => hb.2 e)).trans (Below.heap_setCell _ ⟨q, 0, none⟩ _ b (fun e => hb.2 e))
    have hb4 : Below w.heap.size w w4 := by rw [hw4]; exact (HKc.out.below.setCell (p := ⟨q, 0, none⟩) (Nat.le_of_lt hqw) _).setCell (p := ⟨q, 1, none⟩) (Nat.le_of_lt hqw) _
    have j0 : w4.cell? ⟨q, 0, none⟩ = some (.slice A2 ne c2) := by rw [hw4]; go_simp
    have j1 : w4.cell? ⟨q, 1, none⟩ = some (.slice A3 m3 c3) := by rw [hw4]; go_simp
    have HT4 := Lib.hid hT4
    have HB4 := Lib.hid hb4
    have HW4 := Lib.hid hw4
    clear hT4 hb4 hw4 t0 t1 t2 t3 m0 m1 hHeld s0 s1
    go_wp2_with fail
    rw [← HW4.out]
    refine bodyPost_ret (v := .agg #[.slice A2 ne c2, .slice A3 m3 c3]) (by simp [results, Try.results46, go_sem, j0, j1]) rfl ⟨A2, c2, A3, c3, rfl, HT4.out, HB4.out⟩
theorem kids_any (es : List E) (ks : List (ByteArray × T)) (l : List ByteArray) (A : Option Addr) (n c : Nat) (am : Bool) (Ae Ak : Option Addr) (ne nk ce ck : Nat) (w : World) (hl : l.length = n) (hn5 : n ≤ 100000) (hrk : Rd w w.heap.size 1 A n c (strs l)) (hn : nodes (.mk es ks) ≤ 100000) (hr : RdT w w.heap.size (.mk es ks) ⟨Ae, ne, ce⟩ ⟨Ak, nk, ck⟩) :
    Calls Try.prog 56 #[.agg #[.slice Ae ne ce, .slice Ak nk ck], .slice A n c, .bool am] w (KidsIs (fun k => inB l k == am) ks w) :=
  kids_of es ks (fun k _ => copied_any k.2) l A n c am Ae Ak ne nk ce ck w hl hn5 hrk hn hr
end Tr
end Go.Proofs.Ytbfcbfadfnaebaa
