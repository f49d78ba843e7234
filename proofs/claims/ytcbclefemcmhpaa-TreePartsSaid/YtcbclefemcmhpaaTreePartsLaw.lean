/- TreeParts answers true for every tree, all keys. No condition. -/
import Derived.Test.YtcbclefemcmhpaaG00
import Derived.Deep.DeepCutAuto
import Derived.Test.YtcbclefemcmhpaaG10
import Derived.Test.YtcbclefemcmhpaaTreeOnlyRef
import Derived.Test.YtcbclefemcmhpaaTreeRefSame
namespace Go.Proofs.Ytcbclefemcmhpaa.lawTreeParts
open Go.ChangeShapes Go.WideShapes Go.ChangeAt Go.RowKit Sp Rw Tr
theorem filter_len {f : Lf → Bool} : ∀ l : List Lf, (l.filter f).length + (l.filter fun x => !f x).length = l.length
  | [] => rfl
  | x :: l => by
    have := filter_len (f := f) l
    rw [List.filter_cons, List.filter_cons]
    cases f x <;> simp <;> omega
theorem parts_len (l : List ByteArray) (t : T) : (leaves (.mk [] (keepK (fun k => inB l k == true) t.ks))).length + (leaves (.mk t.es (keepK (fun k => inB l k == false) t.ks))).length = (leaves t).length := by
  obtain ⟨es, ks⟩ := t
  show (leaves (.mk [] (keepK (fun k => inB l k == true) ks))).length + (leaves (.mk es (keepK (fun k => inB l k == false) ks))).length = _
  rw [← those_leaves l es ks, ← others_leaves l es ks]
  exact filter_len _
theorem nodes_parts (es : List E) (f : ByteArray → Bool) (t : T) (h : es.length ≤ t.es.length) : nodes (.mk es (keepK f t.ks)) ≤ nodes t := by
  have e : nodes t = t.es.length + t.ks.length + (t.ks.map fun k => nodes k.2).sum := by
    conv => lhs; rw [← T.eta t]
    exact nodes_mk _ _
  rw [nodes_mk, e]
  have h1 := keep_sum f t.ks
  have h2 : (keepK f t.ks).length ≤ t.ks.length := List.length_filter_le _ _
  omega
/-- two trees, each in a box -/
def MidT (v : World) (g h : Nat) (t u : T) (a b c d : SV) (w : World) : Prop := RdT w w.heap.size t a b ∧ RdT w w.heap.size u c d ∧ Kept [(⟨g, 0, none⟩, .slice a.A a.n a.c), (⟨g, 1, none⟩, .slice b.A b.n b.c), (⟨h, 0, none⟩, .slice c.A c.n c.c), (⟨h, 1, none⟩, .slice d.A d.n d.c)] v w
set_option maxRecDepth 100000 in
set_option maxHeartbeats 4000000 in
theorem walk_any (t : T) (Aet Akt : Option Addr) (net nkt cet ckt : Nat) (l : List ByteArray) (nl : Nat) (Al : Option Addr) (cl : Nat) (w : World) (hrt : RdT w w.heap.size t ⟨Aet, net, cet⟩ ⟨Akt, nkt, ckt⟩) (hlt : LenT reachBytes t) (hnl : l.length = nl) (hsl : Rd w w.heap.size 1 Al nl cl (Tr.strs l)) :
    Calls Try.prog 3 #[.agg #[.slice Aet net cet, .slice Akt nkt ckt], .slice Al nl cl] w fun e w' => e = .returned (.bool true) ∧ Below w.heap.size w w' := by
  have HKc : Hid (Kept [] w w) := Kept.nil w
  have Rt := Lib.hid hrt
  have HLt := Lib.hid hlt
  clear hrt hlt
  have Rl := Lib.hid hsl
  have HNl := Lib.hid hnl
  clear hsl hnl
  obtain ⟨g0, hg0⟩ : ∃ z, z = w.heap.size := ⟨_, rfl⟩
  obtain ⟨B0, hB0⟩ : ∃ W, W = w.alloc (.cells #[.slice Aet net cet, .slice Akt nkt ckt] 25) := ⟨_, rfl⟩
  have hb : Below w.heap.size w B0 := by rw [hB0]; exact Dt.box_below _ _ _
  have e0 : B0.cell? ⟨g0, 0, none⟩ = some (.slice Aet net cet) := by rw [hB0, hg0]; go_simp
  have e1 : B0.cell? ⟨g0, 1, none⟩ = some (.slice Akt nkt ckt) := by rw [hB0, hg0]; go_simp
  have Rt := Lib.hid (RdT.later Rt.out hb)
  have Rl := Lib.hid (Rl.out.later hb)
  have HKc := Lib.hid (((HKc.out.later hb).cons_of e1).cons_of e0)
  have HB0 := Lib.hid hB0
  have Hg0 := Lib.hid hg0
  clear hb e0 e1 hB0 hg0
  have s0 := HKc.out.c0
  have s1 := HKc.out.c1
  go_enter Try.func3, Try.ntmps3
  go_wp2_with fail
  rw [← Hg0.out, ← HB0.out]
  refine (awake_any B0).mono ?_
  rintro e u1 ⟨rfl, hb⟩
  clear s0 s1
  have Rt := Lib.hid (RdT.later Rt.out hb)
  have Rl := Lib.hid (Rl.out.later hb)
  have HKc := Lib.hid (HKc.out.later hb)
  clear hb
  have s0 := HKc.out.c0
  have s1 := HKc.out.c1
  go_wp2_with fail
  refine (small_to t Aet Akt net nkt cet ckt 60 60 rfl u1 (by omega) HLt.out Rt.out).mono ?_
  rintro e u2 ⟨sbt, rfl, hsmt, hb⟩
  clear s0 s1
  have Rt := Lib.hid (RdT.later Rt.out hb)
  have Rl := Lib.hid (Rl.out.later hb)
  have HKc := Lib.hid (HKc.out.later hb)
  clear hb
  have s0 := HKc.out.c0
  have s1 := HKc.out.c1
  cases sbt with
  | false =>
    go_wp2_with fail
    refine (awake_any _).mono ?_
    rintro e u3 ⟨rfl, hb⟩
    clear s0 s1
    have Rt := Lib.hid (RdT.later Rt.out hb)
    have Rl := Lib.hid (Rl.out.later hb)
    have HKc := Lib.hid (HKc.out.later hb)
    clear hb
    have s0 := HKc.out.c0
    have s1 := HKc.out.c1
    go_wp2_with fail
    go_ret
    exact ⟨rfl, HKc.out.below⟩
  | true =>
    have HN60 := Lib.hid (hsmt rfl)
    clear hsmt
    obtain ⟨fw, hfw⟩ : ∃ z, decide (nl ≤ 20) = z := ⟨_, rfl⟩
    go_wp2_with fail
    refine (few_any l nl Al cl u2 fw hfw HNl.out).mono ?_
    rintro e u3 ⟨rfl, rfl⟩
    cases fw with
    | false =>
      clear hfw
      go_wp2_with fail
      refine (awake_any _).mono ?_
      rintro e u4 ⟨rfl, hb⟩
      clear s0 s1
      have Rt := Lib.hid (RdT.later Rt.out hb)
      have Rl := Lib.hid (Rl.out.later hb)
      have HKc := Lib.hid (HKc.out.later hb)
      clear hb
      have s0 := HKc.out.c0
      have s1 := HKc.out.c1
      go_wp2_with fail
      go_ret
      exact ⟨rfl, HKc.out.below⟩
    | true =>
      have hn20 : nl ≤ 20 := of_decide_eq_true hfw
      clear hfw
      obtain ⟨z, hz⟩ : ∃ z, rightB 5 t = z := ⟨_, rfl⟩
      obtain ⟨x, hx⟩ : ∃ x, (if rightB 5 t = true then T.mk [] (keepK (fun k => inB l k == true) t.ks) else none_) = x := ⟨_, rfl⟩
      obtain ⟨y, hy⟩ : ∃ x, (if rightB 5 t = true then T.mk t.es (keepK (fun k => inB l k == false) t.ks) else none_) = x := ⟨_, rfl⟩
      have HXX := Lib.hid hx
      have HYY := Lib.hid hy
      have HZZ := Lib.hid hz
      clear hx hy hz
      have hwv : w.heap.size ≤ u3.heap.size := HKc.out.below.size
      have hgv : g0 < u3.heap.size := World.block_lt_of_cell? u3 _ HKc.out.c0
      clear s0 s1
      go_wp2_with fail
      go_cut [5, 6] (fun s7 s8 wx => ∃ (gp gq : Nat) (a b c d : SV), s7 = .pointer (some ⟨gp, 0, none⟩) ∧ s8 = .pointer (some ⟨gq, 0, none⟩) ∧ Hid (MidT u3 gp gq x y a b c d wx))
      case first =>
        refine wp_region_held_drew (S := fun W => W.cell? ⟨g0, 0, none⟩ = some (.slice Aet net cet) ∧ W.cell? ⟨g0, 1, none⟩ = some (.slice Akt nkt ckt)) (by kernel_rfl) (by have h9 := HKc.out.drew; exact ⟨h9.c0, h9.c1⟩) (fun hHeld => ?_)
        obtain ⟨w1, hw1⟩ : ∃ v, v = u3.drew := ⟨_, rfl⟩
        have HBV : Hid (Below u3.heap.size u3 w1) := by unfold Hid; rw [hw1]; exact (Below.refl _ _).drew
        have HKc : Hid (Kept [(⟨g0, 0, none⟩, .slice Aet net cet), (⟨g0, 1, none⟩, .slice Akt nkt ckt)] w w1) := by unfold Hid; rw [hw1]; exact HKc.out.drew
        rw [← hw1] at hHeld ⊢
        clear hw1
        refine Tk 0 22 ?_
        refine Tk 1 23 ?_
        refine Tk 3 25 ?_
        refine Tk 4 26 ?_
        refine wpAnyH_ready (rs := [2, 6, 7]) (by kernel_rfl) (by simp) ?_
        refine AllReadyH.cons (o := ⟨some 24, _, _, _, _, _⟩) rfl (fun K hK => ?_) (AllReadyH.cons (o := ⟨some 5, _, _, _, _, _⟩) rfl (fun K hK => ?_) (AllReadyH.cons (o := ⟨some 6, _, _, _, _, _⟩) rfl (fun K hK => ?_) (AllReadyH.nil)))
        · go_simp
          (go_at_call 7; refine (only_any t Aet Akt net nkt cet ckt w1 l Al nl cl HNl.out (by omega) (Rl.out.later HBV.out) HLt.out (by have := HN60.out; omega) (RdT.later Rt.out HBV.out)).mono ?_)
          rw [HXX.out]
          rintro e x2 ⟨Aex, nex, cex, Akx, nkx, ckx, rfl, hro, hb9⟩
          have HNp : Hid (RdO x2 (fun b => True) x ⟨Aex, nex, cex⟩ ⟨Akx, nkx, ckx⟩) := RdO.mono (fun b hb _ => trivial) _ hro
          clear hro
          have HKc := Lib.hid (HKc.out.later hb9)
          have HBV := Lib.hid (HBV.out.trans (hb9.mono HBV.out.size))
          clear hb9
          refine hK.out _ _ ?_ (fun hHeld2 => ?_)
          · exact ⟨HKc.out.c0, HKc.out.c1⟩
          clear hK K hHeld
          have hHeld := hHeld2
          clear hHeld2
          try simp only [Act.put, List.setIfInBounds_toArray, List.set_cons_zero, List.set_cons_succ]
          refine wpAnyH_ready (rs := [5, 6, 7]) (by kernel_rfl) (by simp) ?_
          refine AllReadyH.cons (o := ⟨some 27, _, _, _, _, _⟩) rfl (fun K hK => ?_) (AllReadyH.cons (o := ⟨some 5, _, _, _, _, _⟩) rfl (fun K hK => ?_) (AllReadyH.cons (o := ⟨some 6, _, _, _, _, _⟩) rfl (fun K hK => ?_) (AllReadyH.nil)))
          · go_simp
            (go_at_call 8; refine (without_any t Aet Akt net nkt cet ckt x2 l Al nl cl HNl.out (by omega) (Rl.out.later HBV.out) HLt.out (by have := HN60.out; omega) (RdT.later Rt.out HBV.out)).mono ?_)
            rw [HYY.out]
            rintro e x25 ⟨Aey, ney, cey, Aky, nky, cky, rfl, hro, hb9⟩
            have HNq : Hid (RdO x25 (fun b => True) y ⟨Aey, ney, cey⟩ ⟨Aky, nky, cky⟩) := RdO.mono (fun b hb _ => trivial) _ hro
            clear hro
            have HKc := Lib.hid (HKc.out.later hb9)
            have HBV := Lib.hid (HBV.out.trans (hb9.mono HBV.out.size))
            have HNp := Lib.hid (RdO.later HNp.out hb9)
            clear hb9
            refine hK.out _ _ ?_ (fun hHeld2 => ?_)
            · exact ⟨HKc.out.c0, HKc.out.c1⟩
            clear hK K hHeld
            have hHeld := hHeld2
            clear hHeld2
            try simp only [Act.put, List.setIfInBounds_toArray, List.set_cons_zero, List.set_cons_succ]
            refine wpAnyH_ready (rs := [6, 7]) (by kernel_rfl) (by simp) ?_
            refine AllReadyH.cons (o := ⟨some 5, _, _, _, _, _⟩) rfl (fun K hK => ?_) (AllReadyH.cons (o := ⟨some 6, _, _, _, _, _⟩) rfl (fun K hK => ?_) (AllReadyH.nil))
            · go_simp
              refine hK.out _ _ ?_ (fun hHeld2 => ?_)
              · exact ⟨(HKc.out.alloc _).c0, (HKc.out.alloc _).c1⟩
              clear hK K hHeld
              have hHeld := hHeld2
              clear hHeld2
              obtain ⟨gp, hgp⟩ : ∃ g, g = x25.heap.size := ⟨_, rfl⟩
              obtain ⟨x256, hx256⟩ : ∃ W, W = x25.alloc (.cells #[.slice none 0 0, .slice none 0 0] 25) := ⟨_, rfl⟩
              have HBX : Hid (u3.heap.size ≤ x25.heap.size) := HBV.out.size
              have hb9 : Below x25.heap.size x25 x256 := by rw [hx256]; exact Dt.box_below _ _ _
              have e0 : x256.cell? ⟨gp, 0, none⟩ = some (.slice none 0 0) := by rw [hx256, hgp]; go_simp
              have e1 : x256.cell? ⟨gp, 1, none⟩ = some (.slice none 0 0) := by rw [hx256, hgp]; go_simp
              have HNp := Lib.hid (RdO.later (RdO.mono (ok' := fun b => b ≠ gp) (fun b hb hlt => by omega) _ HNp.out) hb9)
              have HNq := Lib.hid (RdO.later (RdO.mono (ok' := fun b => b ≠ gp) (fun b hb hlt => by omega) _ HNq.out) hb9)
              have HKc := Lib.hid (HKc.out.later hb9)
              have HBV := Lib.hid (HBV.out.trans (hb9.mono HBV.out.size))
              have HZp : Hid (Kept [(⟨gp, 0, none⟩, .slice none 0 0), (⟨gp, 1, none⟩, .slice none 0 0)] u3 x256) := ((Kept.nil_of HBV.out).cons_of e1).cons_of e0
              have HFp : Hid (Free gp x256) := ⟨by rw [hx256, hgp]; simp, fun j => by rw [hx256, hgp]; go_simp⟩
              have hltp : gp < x256.heap.size := HFp.out.1
              have hvp : u3.heap.size ≤ gp := by rw [hgp]; exact HBX.out
              (try rw [← hx256] at hHeld)
              rw [← hgp, ← hx256]
              clear hgp hx256 hb9 e0 e1
              try simp only [Act.put, List.setIfInBounds_toArray, List.set_cons_zero, List.set_cons_succ]
              refine wpAnyH_ready (rs := [7]) (by kernel_rfl) (by simp) ?_
              refine AllReadyH.cons (o := ⟨some 6, _, _, _, _, _⟩) rfl (fun K hK => ?_) AllReadyH.nil
              go_simp
              refine hK.out _ _ ?_ (fun hHeld2 => ?_)
              · exact ⟨(HKc.out.alloc _).c0, (HKc.out.alloc _).c1⟩
              clear hK K hHeld
              have hHeld := hHeld2
              clear hHeld2
              obtain ⟨gq, hgq⟩ : ∃ g, g = x256.heap.size := ⟨_, rfl⟩
              obtain ⟨x2567, hx2567⟩ : ∃ W, W = x256.alloc (.cells #[.slice none 0 0, .slice none 0 0] 25) := ⟨_, rfl⟩
              have HBX : Hid (u3.heap.size ≤ x256.heap.size) := HBV.out.size
              have hb9 : Below x256.heap.size x256 x2567 := by rw [hx2567]; exact Dt.box_below _ _ _
              have e0 : x2567.cell? ⟨gq, 0, none⟩ = some (.slice none 0 0) := by rw [hx2567, hgq]; go_simp
              have e1 : x2567.cell? ⟨gq, 1, none⟩ = some (.slice none 0 0) := by rw [hx2567, hgq]; go_simp
              have HNp := Lib.hid (RdO.later (RdO.mono (ok' := fun b => b ≠ gp ∧ b ≠ gq) (fun b hb hlt => ⟨hb, by omega⟩) _ HNp.out) hb9)
              have HNq := Lib.hid (RdO.later (RdO.mono (ok' := fun b => b ≠ gp ∧ b ≠ gq) (fun b hb hlt => ⟨hb, by omega⟩) _ HNq.out) hb9)
              have HKc := Lib.hid (HKc.out.later hb9)
              have HBV := Lib.hid (HBV.out.trans (hb9.mono HBV.out.size))
              have HZp := Lib.hid (HZp.out.later hb9)
              have HFp := Lib.hid (HFp.out.later hb9)
              have hltp : gp < x2567.heap.size := HFp.out.1
              have HZq : Hid (Kept [(⟨gq, 0, none⟩, .slice none 0 0), (⟨gq, 1, none⟩, .slice none 0 0)] u3 x2567) := ((Kept.nil_of HBV.out).cons_of e1).cons_of e0
              have HFq : Hid (Free gq x2567) := ⟨by rw [hx2567, hgq]; simp, fun j => by rw [hx2567, hgq]; go_simp⟩
              have hltq : gq < x2567.heap.size := HFq.out.1
              have hvq : u3.heap.size ≤ gq := by rw [hgq]; exact HBX.out
              have hne1 : ¬ gp = gq := by omega
              have hne2 : ¬ gq = gp := by omega
              (try rw [← hx2567] at hHeld)
              rw [← hgq, ← hx2567]
              clear hgq hx2567 hb9 e0 e1
              have zp0 := HZp.out.c0
              have mp0 := HFp.out.2 0
              have zp1 := HZp.out.c1
              have mp1 := HFp.out.2 1
              have zq0 := HZq.out.c0
              have mq0 := HFq.out.2 0
              have zq1 := HZq.out.c1
              have mq1 := HFq.out.2 1
              try simp only [Act.put, List.setIfInBounds_toArray, List.set_cons_zero, List.set_cons_succ]
              refine wpAnyH_ready (rs := [8]) (by kernel_rfl) (by simp) ?_
              refine AllReadyH.cons (o := ⟨none, _, _, _, _, _⟩) rfl (fun K hK => ?_) AllReadyH.nil
              go_simp
              refine hK.out _ _ ?_ (fun hHeld2 => ?_)
              · (try dsimp only)
                have h9 := HKc.out
                have h9 := h9.set (a := ⟨gp, 0, none⟩) (Nat.le_trans hwv hvp) (fun x hx => by simp at hx; rcases hx with rfl | rfl <;> (dsimp only; omega)) (.slice Aex nex cex)
                have h9 := h9.set (a := ⟨gp, 1, none⟩) (Nat.le_trans hwv hvp) (fun x hx => by simp at hx; rcases hx with rfl | rfl <;> (dsimp only; omega)) (.slice Akx nkx ckx)
                exact ⟨h9.c0, h9.c1⟩
              clear hK K hHeld
              have hHeld := hHeld2
              clear hHeld2
              try simp only [Act.put, List.setIfInBounds_toArray, List.set_cons_zero, List.set_cons_succ]
              refine wpAnyH_ready (rs := [9]) (by kernel_rfl) (by simp) ?_
              refine AllReadyH.cons (o := ⟨none, _, _, _, _, _⟩) rfl (fun K hK => ?_) AllReadyH.nil
              go_simp
              refine hK.out _ _ ?_ (fun hHeld2 => ?_)
              · (try dsimp only)
                have h9 := HKc.out
                have h9 := h9.set (a := ⟨gp, 0, none⟩) (Nat.le_trans hwv hvp) (fun x hx => by simp at hx; rcases hx with rfl | rfl <;> (dsimp only; omega)) (.slice Aex nex cex)
                have h9 := h9.set (a := ⟨gp, 1, none⟩) (Nat.le_trans hwv hvp) (fun x hx => by simp at hx; rcases hx with rfl | rfl <;> (dsimp only; omega)) (.slice Akx nkx ckx)
                have h9 := h9.set (a := ⟨gq, 0, none⟩) (Nat.le_trans hwv hvq) (fun x hx => by simp at hx; rcases hx with rfl | rfl <;> (dsimp only; omega)) (.slice Aey ney cey)
                have h9 := h9.set (a := ⟨gq, 1, none⟩) (Nat.le_trans hwv hvq) (fun x hx => by simp at hx; rcases hx with rfl | rfl <;> (dsimp only; omega)) (.slice Aky nky cky)
                exact ⟨h9.c0, h9.c1⟩
              clear hK K hHeld
              have hHeld := hHeld2
              clear hHeld2
              try simp only [Act.put, List.setIfInBounds_toArray, List.set_cons_zero, List.set_cons_succ]
              refine wpAnyH_done (by kernel_rfl) ?_ _
              clear hHeld
              have HMID : Hid (MidT u3 gp gq x y ⟨Aex, nex, cex⟩ ⟨Akx, nkx, ckx⟩ ⟨Aey, ney, cey⟩ ⟨Aky, nky, cky⟩ ((((x2567.setCell ⟨gp, 0, none⟩ (.slice Aex nex cex)).setCell ⟨gp, 1, none⟩ (.slice Akx nkx ckx)).setCell ⟨gq, 0, none⟩ (.slice Aey ney cey)).setCell ⟨gq, 1, none⟩ (.slice Aky nky cky))) := by
                obtain ⟨W9, hW9⟩ : ∃ W, W = ((((x2567.setCell ⟨gp, 0, none⟩ (.slice Aex nex cex)).setCell ⟨gp, 1, none⟩ (.slice Akx nkx ckx)).setCell ⟨gq, 0, none⟩ (.slice Aey ney cey)).setCell ⟨gq, 1, none⟩ (.slice Aky nky cky)) := ⟨_, rfl⟩
                rw [← hW9]
                have hk : ∀ b, (b ≠ gp ∧ b ≠ gq) → b < x2567.heap.size → W9.heap[b]? = x2567.heap[b]? := fun b hb _ => by
                  rw [hW9]
                  exact (((Below.heap_setCell _ ⟨gq, 1, none⟩ _ b (fun e => hb.2 e)).trans (Below.heap_setCell _ ⟨gq, 0, none⟩ _ b (fun e => hb.2 e))).trans (Below.heap_setCell _ ⟨gp, 1, none⟩ _ b (fun e => hb.1 e))).trans (Below.heap_setCell _ ⟨gp, 0, none⟩ _ b (fun e => hb.1 e))
                have hs : x2567.heap.size ≤ W9.heap.size := by rw [hW9]; simp [World.setCell]
                have hb : Below u3.heap.size u3 W9 := by
                  rw [hW9]
                  exact (((HBV.out.setCell (p := ⟨gp, 0, none⟩) hvp _).setCell (p := ⟨gp, 1, none⟩) hvp _).setCell (p := ⟨gq, 0, none⟩) hvq _).setCell (p := ⟨gq, 1, none⟩) hvq _
                refine ⟨RdO.rd _ (RdO.keep hs hk _ HNp.out), RdO.rd _ (RdO.keep hs hk _ HNq.out), ?_⟩
                refine ((((Kept.nil_of hb).cons_of ?_).cons_of ?_).cons_of ?_).cons_of ?_ <;> (rw [hW9]; go_simp)
              clear zp0 mp0 zp1 mp1 zq0 mq0 zq1 mq1
              go_wp2_with fail
              go_meet
              exact ⟨gp, gq, ⟨Aex, nex, cex⟩, ⟨Akx, nkx, ckx⟩, ⟨Aey, ney, cey⟩, ⟨Aky, nky, cky⟩, rfl, rfl, HMID.out⟩
            · go_simp
              refine hK.out _ _ ?_ (fun hHeld2 => ?_)
              · exact ⟨(HKc.out.alloc _).c0, (HKc.out.alloc _).c1⟩
              clear hK K hHeld
              have hHeld := hHeld2
              clear hHeld2
              obtain ⟨gq, hgq⟩ : ∃ g, g = x25.heap.size := ⟨_, rfl⟩
              obtain ⟨x257, hx257⟩ : ∃ W, W = x25.alloc (.cells #[.slice none 0 0, .slice none 0 0] 25) := ⟨_, rfl⟩
              have HBX : Hid (u3.heap.size ≤ x25.heap.size) := HBV.out.size
              have hb9 : Below x25.heap.size x25 x257 := by rw [hx257]; exact Dt.box_below _ _ _
              have e0 : x257.cell? ⟨gq, 0, none⟩ = some (.slice none 0 0) := by rw [hx257, hgq]; go_simp
              have e1 : x257.cell? ⟨gq, 1, none⟩ = some (.slice none 0 0) := by rw [hx257, hgq]; go_simp
              have HNp := Lib.hid (RdO.later (RdO.mono (ok' := fun b => b ≠ gq) (fun b hb hlt => by omega) _ HNp.out) hb9)
              have HNq := Lib.hid (RdO.later (RdO.mono (ok' := fun b => b ≠ gq) (fun b hb hlt => by omega) _ HNq.out) hb9)
              have HKc := Lib.hid (HKc.out.later hb9)
              have HBV := Lib.hid (HBV.out.trans (hb9.mono HBV.out.size))
              have HZq : Hid (Kept [(⟨gq, 0, none⟩, .slice none 0 0), (⟨gq, 1, none⟩, .slice none 0 0)] u3 x257) := ((Kept.nil_of HBV.out).cons_of e1).cons_of e0
              have HFq : Hid (Free gq x257) := ⟨by rw [hx257, hgq]; simp, fun j => by rw [hx257, hgq]; go_simp⟩
              have hltq : gq < x257.heap.size := HFq.out.1
              have hvq : u3.heap.size ≤ gq := by rw [hgq]; exact HBX.out
              (try rw [← hx257] at hHeld)
              rw [← hgq, ← hx257]
              clear hgq hx257 hb9 e0 e1
              try simp only [Act.put, List.setIfInBounds_toArray, List.set_cons_zero, List.set_cons_succ]
              refine wpAnyH_ready (rs := [6]) (by kernel_rfl) (by simp) ?_
              refine AllReadyH.cons (o := ⟨some 5, _, _, _, _, _⟩) rfl (fun K hK => ?_) AllReadyH.nil
              go_simp
              refine hK.out _ _ ?_ (fun hHeld2 => ?_)
              · exact ⟨(HKc.out.alloc _).c0, (HKc.out.alloc _).c1⟩
              clear hK K hHeld
              have hHeld := hHeld2
              clear hHeld2
              obtain ⟨gp, hgp⟩ : ∃ g, g = x257.heap.size := ⟨_, rfl⟩
              obtain ⟨x2576, hx2576⟩ : ∃ W, W = x257.alloc (.cells #[.slice none 0 0, .slice none 0 0] 25) := ⟨_, rfl⟩
              have HBX : Hid (u3.heap.size ≤ x257.heap.size) := HBV.out.size
              have hb9 : Below x257.heap.size x257 x2576 := by rw [hx2576]; exact Dt.box_below _ _ _
              have e0 : x2576.cell? ⟨gp, 0, none⟩ = some (.slice none 0 0) := by rw [hx2576, hgp]; go_simp
              have e1 : x2576.cell? ⟨gp, 1, none⟩ = some (.slice none 0 0) := by rw [hx2576, hgp]; go_simp
              have HNp := Lib.hid (RdO.later (RdO.mono (ok' := fun b => b ≠ gp ∧ b ≠ gq) (fun b hb hlt => ⟨by omega, hb⟩) _ HNp.out) hb9)
              have HNq := Lib.hid (RdO.later (RdO.mono (ok' := fun b => b ≠ gp ∧ b ≠ gq) (fun b hb hlt => ⟨by omega, hb⟩) _ HNq.out) hb9)
              have HKc := Lib.hid (HKc.out.later hb9)
              have HBV := Lib.hid (HBV.out.trans (hb9.mono HBV.out.size))
              have HZq := Lib.hid (HZq.out.later hb9)
              have HFq := Lib.hid (HFq.out.later hb9)
              have hltq : gq < x2576.heap.size := HFq.out.1
              have HZp : Hid (Kept [(⟨gp, 0, none⟩, .slice none 0 0), (⟨gp, 1, none⟩, .slice none 0 0)] u3 x2576) := ((Kept.nil_of HBV.out).cons_of e1).cons_of e0
              have HFp : Hid (Free gp x2576) := ⟨by rw [hx2576, hgp]; simp, fun j => by rw [hx2576, hgp]; go_simp⟩
              have hltp : gp < x2576.heap.size := HFp.out.1
              have hvp : u3.heap.size ≤ gp := by rw [hgp]; exact HBX.out
              have hne1 : ¬ gp = gq := by omega
              have hne2 : ¬ gq = gp := by omega
              (try rw [← hx2576] at hHeld)
              rw [← hgp, ← hx2576]
              clear hgp hx2576 hb9 e0 e1
              have zp0 := HZp.out.c0
              have mp0 := HFp.out.2 0
              have zp1 := HZp.out.c1
              have mp1 := HFp.out.2 1
              have zq0 := HZq.out.c0
              have mq0 := HFq.out.2 0
              have zq1 := HZq.out.c1
              have mq1 := HFq.out.2 1
              try simp only [Act.put, List.setIfInBounds_toArray, List.set_cons_zero, List.set_cons_succ]
              refine wpAnyH_ready (rs := [8]) (by kernel_rfl) (by simp) ?_
              refine AllReadyH.cons (o := ⟨none, _, _, _, _, _⟩) rfl (fun K hK => ?_) AllReadyH.nil
              go_simp
              refine hK.out _ _ ?_ (fun hHeld2 => ?_)
              · (try dsimp only)
                have h9 := HKc.out
                have h9 := h9.set (a := ⟨gp, 0, none⟩) (Nat.le_trans hwv hvp) (fun x hx => by simp at hx; rcases hx with rfl | rfl <;> (dsimp only; omega)) (.slice Aex nex cex)
                have h9 := h9.set (a := ⟨gp, 1, none⟩) (Nat.le_trans hwv hvp) (fun x hx => by simp at hx; rcases hx with rfl | rfl <;> (dsimp only; omega)) (.slice Akx nkx ckx)
                exact ⟨h9.c0, h9.c1⟩
              clear hK K hHeld
              have hHeld := hHeld2
              clear hHeld2
              try simp only [Act.put, List.setIfInBounds_toArray, List.set_cons_zero, List.set_cons_succ]
              refine wpAnyH_ready (rs := [9]) (by kernel_rfl) (by simp) ?_
              refine AllReadyH.cons (o := ⟨none, _, _, _, _, _⟩) rfl (fun K hK => ?_) AllReadyH.nil
              go_simp
              refine hK.out _ _ ?_ (fun hHeld2 => ?_)
              · (try dsimp only)
                have h9 := HKc.out
                have h9 := h9.set (a := ⟨gp, 0, none⟩) (Nat.le_trans hwv hvp) (fun x hx => by simp at hx; rcases hx with rfl | rfl <;> (dsimp only; omega)) (.slice Aex nex cex)
                have h9 := h9.set (a := ⟨gp, 1, none⟩) (Nat.le_trans hwv hvp) (fun x hx => by simp at hx; rcases hx with rfl | rfl <;> (dsimp only; omega)) (.slice Akx nkx ckx)
                have h9 := h9.set (a := ⟨gq, 0, none⟩) (Nat.le_trans hwv hvq) (fun x hx => by simp at hx; rcases hx with rfl | rfl <;> (dsimp only; omega)) (.slice Aey ney cey)
                have h9 := h9.set (a := ⟨gq, 1, none⟩) (Nat.le_trans hwv hvq) (fun x hx => by simp at hx; rcases hx with rfl | rfl <;> (dsimp only; omega)) (.slice Aky nky cky)
                exact ⟨h9.c0, h9.c1⟩
              clear hK K hHeld
              have hHeld := hHeld2
              clear hHeld2
              try simp only [Act.put, List.setIfInBounds_toArray, List.set_cons_zero, List.set_cons_succ]
              refine wpAnyH_done (by kernel_rfl) ?_ _
              clear hHeld
              have HMID : Hid (MidT u3 gp gq x y ⟨Aex, nex, cex⟩ ⟨Akx, nkx, ckx⟩ ⟨Aey, ney, cey⟩ ⟨Aky, nky, cky⟩ ((((x2576.setCell ⟨gp, 0, none⟩ (.slice Aex nex cex)).setCell ⟨gp, 1, none⟩ (.slice Akx nkx ckx)).setCell ⟨gq, 0, none⟩ (.slice Aey ney cey)).setCell ⟨gq, 1, none⟩ (.slice Aky nky cky))) := by
                obtain ⟨W9, hW9⟩ : ∃ W, W = ((((x2576.setCell ⟨gp, 0, none⟩ (.slice Aex nex cex)).setCell ⟨gp, 1, none⟩ (.slice Akx nkx ckx)).setCell ⟨gq, 0, none⟩ (.slice Aey ney cey)).setCell ⟨gq, 1, none⟩ (.slice Aky nky cky)) := ⟨_, rfl⟩
                rw [← hW9]
                have hk : ∀ b, (b ≠ gp ∧ b ≠ gq) → b < x2576.heap.size → W9.heap[b]? = x2576.heap[b]? := fun b hb _ => by
                  rw [hW9]
                  exact (((Below.heap_setCell _ ⟨gq, 1, none⟩ _ b (fun e => hb.2 e)).trans (Below.heap_setCell _ ⟨gq, 0, none⟩ _ b (fun e => hb.2 e))).trans (Below.heap_setCell _ ⟨gp, 1, none⟩ _ b (fun e => hb.1 e))).trans (Below.heap_setCell _ ⟨gp, 0, none⟩ _ b (fun e => hb.1 e))
                have hs : x2576.heap.size ≤ W9.heap.size := by rw [hW9]; simp [World.setCell]
                have hb : Below u3.heap.size u3 W9 := by
                  rw [hW9]
                  exact (((HBV.out.setCell (p := ⟨gp, 0, none⟩) hvp _).setCell (p := ⟨gp, 1, none⟩) hvp _).setCell (p := ⟨gq, 0, none⟩) hvq _).setCell (p := ⟨gq, 1, none⟩) hvq _
                refine ⟨RdO.rd _ (RdO.keep hs hk _ HNp.out), RdO.rd _ (RdO.keep hs hk _ HNq.out), ?_⟩
                refine ((((Kept.nil_of hb).cons_of ?_).cons_of ?_).cons_of ?_).cons_of ?_ <;> (rw [hW9]; go_simp)
              clear zp0 mp0 zp1 mp1 zq0 mq0 zq1 mq1
              go_wp2_with fail
              go_meet
              exact ⟨gp, gq, ⟨Aex, nex, cex⟩, ⟨Akx, nkx, ckx⟩, ⟨Aey, ney, cey⟩, ⟨Aky, nky, cky⟩, rfl, rfl, HMID.out⟩
          · go_simp
            refine hK.out _ _ ?_ (fun hHeld2 => ?_)
            · exact ⟨(HKc.out.alloc _).c0, (HKc.out.alloc _).c1⟩
            clear hK K hHeld
            have hHeld := hHeld2
            clear hHeld2
            obtain ⟨gp, hgp⟩ : ∃ g, g = x2.heap.size := ⟨_, rfl⟩
            obtain ⟨x26, hx26⟩ : ∃ W, W = x2.alloc (.cells #[.slice none 0 0, .slice none 0 0] 25) := ⟨_, rfl⟩
            have HBX : Hid (u3.heap.size ≤ x2.heap.size) := HBV.out.size
            have hb9 : Below x2.heap.size x2 x26 := by rw [hx26]; exact Dt.box_below _ _ _
            have e0 : x26.cell? ⟨gp, 0, none⟩ = some (.slice none 0 0) := by rw [hx26, hgp]; go_simp
            have e1 : x26.cell? ⟨gp, 1, none⟩ = some (.slice none 0 0) := by rw [hx26, hgp]; go_simp
            have HNp := Lib.hid (RdO.later (RdO.mono (ok' := fun b => b ≠ gp) (fun b hb hlt => by omega) _ HNp.out) hb9)
            have HKc := Lib.hid (HKc.out.later hb9)
            have HBV := Lib.hid (HBV.out.trans (hb9.mono HBV.out.size))
            have HZp : Hid (Kept [(⟨gp, 0, none⟩, .slice none 0 0), (⟨gp, 1, none⟩, .slice none 0 0)] u3 x26) := ((Kept.nil_of HBV.out).cons_of e1).cons_of e0
            have HFp : Hid (Free gp x26) := ⟨by rw [hx26, hgp]; simp, fun j => by rw [hx26, hgp]; go_simp⟩
            have hltp : gp < x26.heap.size := HFp.out.1
            have hvp : u3.heap.size ≤ gp := by rw [hgp]; exact HBX.out
            (try rw [← hx26] at hHeld)
            rw [← hgp, ← hx26]
            clear hgp hx26 hb9 e0 e1
            try simp only [Act.put, List.setIfInBounds_toArray, List.set_cons_zero, List.set_cons_succ]
            refine wpAnyH_ready (rs := [5, 7]) (by kernel_rfl) (by simp) ?_
            refine AllReadyH.cons (o := ⟨some 27, _, _, _, _, _⟩) rfl (fun K hK => ?_) (AllReadyH.cons (o := ⟨some 6, _, _, _, _, _⟩) rfl (fun K hK => ?_) (AllReadyH.nil))
            · go_simp
              (go_at_call 8; refine (without_any t Aet Akt net nkt cet ckt x26 l Al nl cl HNl.out (by omega) (Rl.out.later HBV.out) HLt.out (by have := HN60.out; omega) (RdT.later Rt.out HBV.out)).mono ?_)
              rw [HYY.out]
              rintro e x265 ⟨Aey, ney, cey, Aky, nky, cky, rfl, hro, hb9⟩
              have HNq : Hid (RdO x265 (fun b => b ≠ gp) y ⟨Aey, ney, cey⟩ ⟨Aky, nky, cky⟩) := RdO.mono (fun b hb _ => by omega) _ hro
              clear hro
              have HKc := Lib.hid (HKc.out.later hb9)
              have HBV := Lib.hid (HBV.out.trans (hb9.mono HBV.out.size))
              have HNp := Lib.hid (RdO.later HNp.out hb9)
              have HZp := Lib.hid (HZp.out.later hb9)
              have HFp := Lib.hid (HFp.out.later hb9)
              have hltp : gp < x265.heap.size := HFp.out.1
              clear hb9
              refine hK.out _ _ ?_ (fun hHeld2 => ?_)
              · exact ⟨HKc.out.c0, HKc.out.c1⟩
              clear hK K hHeld
              have hHeld := hHeld2
              clear hHeld2
              try simp only [Act.put, List.setIfInBounds_toArray, List.set_cons_zero, List.set_cons_succ]
              refine wpAnyH_ready (rs := [7]) (by kernel_rfl) (by simp) ?_
              refine AllReadyH.cons (o := ⟨some 6, _, _, _, _, _⟩) rfl (fun K hK => ?_) AllReadyH.nil
              go_simp
              refine hK.out _ _ ?_ (fun hHeld2 => ?_)
              · exact ⟨(HKc.out.alloc _).c0, (HKc.out.alloc _).c1⟩
              clear hK K hHeld
              have hHeld := hHeld2
              clear hHeld2
              obtain ⟨gq, hgq⟩ : ∃ g, g = x265.heap.size := ⟨_, rfl⟩
              obtain ⟨x2657, hx2657⟩ : ∃ W, W = x265.alloc (.cells #[.slice none 0 0, .slice none 0 0] 25) := ⟨_, rfl⟩
              have HBX : Hid (u3.heap.size ≤ x265.heap.size) := HBV.out.size
              have hb9 : Below x265.heap.size x265 x2657 := by rw [hx2657]; exact Dt.box_below _ _ _
              have e0 : x2657.cell? ⟨gq, 0, none⟩ = some (.slice none 0 0) := by rw [hx2657, hgq]; go_simp
              have e1 : x2657.cell? ⟨gq, 1, none⟩ = some (.slice none 0 0) := by rw [hx2657, hgq]; go_simp
              have HNp := Lib.hid (RdO.later (RdO.mono (ok' := fun b => b ≠ gp ∧ b ≠ gq) (fun b hb hlt => ⟨hb, by omega⟩) _ HNp.out) hb9)
              have HNq := Lib.hid (RdO.later (RdO.mono (ok' := fun b => b ≠ gp ∧ b ≠ gq) (fun b hb hlt => ⟨hb, by omega⟩) _ HNq.out) hb9)
              have HKc := Lib.hid (HKc.out.later hb9)
              have HBV := Lib.hid (HBV.out.trans (hb9.mono HBV.out.size))
              have HZp := Lib.hid (HZp.out.later hb9)
              have HFp := Lib.hid (HFp.out.later hb9)
              have hltp : gp < x2657.heap.size := HFp.out.1
              have HZq : Hid (Kept [(⟨gq, 0, none⟩, .slice none 0 0), (⟨gq, 1, none⟩, .slice none 0 0)] u3 x2657) := ((Kept.nil_of HBV.out).cons_of e1).cons_of e0
              have HFq : Hid (Free gq x2657) := ⟨by rw [hx2657, hgq]; simp, fun j => by rw [hx2657, hgq]; go_simp⟩
              have hltq : gq < x2657.heap.size := HFq.out.1
              have hvq : u3.heap.size ≤ gq := by rw [hgq]; exact HBX.out
              have hne1 : ¬ gp = gq := by omega
              have hne2 : ¬ gq = gp := by omega
              (try rw [← hx2657] at hHeld)
              rw [← hgq, ← hx2657]
              clear hgq hx2657 hb9 e0 e1
              have zp0 := HZp.out.c0
              have mp0 := HFp.out.2 0
              have zp1 := HZp.out.c1
              have mp1 := HFp.out.2 1
              have zq0 := HZq.out.c0
              have mq0 := HFq.out.2 0
              have zq1 := HZq.out.c1
              have mq1 := HFq.out.2 1
              try simp only [Act.put, List.setIfInBounds_toArray, List.set_cons_zero, List.set_cons_succ]
              refine wpAnyH_ready (rs := [8]) (by kernel_rfl) (by simp) ?_
              refine AllReadyH.cons (o := ⟨none, _, _, _, _, _⟩) rfl (fun K hK => ?_) AllReadyH.nil
              go_simp
              refine hK.out _ _ ?_ (fun hHeld2 => ?_)
              · (try dsimp only)
                have h9 := HKc.out
                have h9 := h9.set (a := ⟨gp, 0, none⟩) (Nat.le_trans hwv hvp) (fun x hx => by simp at hx; rcases hx with rfl | rfl <;> (dsimp only; omega)) (.slice Aex nex cex)
                have h9 := h9.set (a := ⟨gp, 1, none⟩) (Nat.le_trans hwv hvp) (fun x hx => by simp at hx; rcases hx with rfl | rfl <;> (dsimp only; omega)) (.slice Akx nkx ckx)
                exact ⟨h9.c0, h9.c1⟩
              clear hK K hHeld
              have hHeld := hHeld2
              clear hHeld2
              try simp only [Act.put, List.setIfInBounds_toArray, List.set_cons_zero, List.set_cons_succ]
              refine wpAnyH_ready (rs := [9]) (by kernel_rfl) (by simp) ?_
              refine AllReadyH.cons (o := ⟨none, _, _, _, _, _⟩) rfl (fun K hK => ?_) AllReadyH.nil
              go_simp
              refine hK.out _ _ ?_ (fun hHeld2 => ?_)
              · (try dsimp only)
                have h9 := HKc.out
                have h9 := h9.set (a := ⟨gp, 0, none⟩) (Nat.le_trans hwv hvp) (fun x hx => by simp at hx; rcases hx with rfl | rfl <;> (dsimp only; omega)) (.slice Aex nex cex)
                have h9 := h9.set (a := ⟨gp, 1, none⟩) (Nat.le_trans hwv hvp) (fun x hx => by simp at hx; rcases hx with rfl | rfl <;> (dsimp only; omega)) (.slice Akx nkx ckx)
                have h9 := h9.set (a := ⟨gq, 0, none⟩) (Nat.le_trans hwv hvq) (fun x hx => by simp at hx; rcases hx with rfl | rfl <;> (dsimp only; omega)) (.slice Aey ney cey)
                have h9 := h9.set (a := ⟨gq, 1, none⟩) (Nat.le_trans hwv hvq) (fun x hx => by simp at hx; rcases hx with rfl | rfl <;> (dsimp only; omega)) (.slice Aky nky cky)
                exact ⟨h9.c0, h9.c1⟩
              clear hK K hHeld
              have hHeld := hHeld2
              clear hHeld2
              try simp only [Act.put, List.setIfInBounds_toArray, List.set_cons_zero, List.set_cons_succ]
              refine wpAnyH_done (by kernel_rfl) ?_ _
              clear hHeld
              have HMID : Hid (MidT u3 gp gq x y ⟨Aex, nex, cex⟩ ⟨Akx, nkx, ckx⟩ ⟨Aey, ney, cey⟩ ⟨Aky, nky, cky⟩ ((((x2657.setCell ⟨gp, 0, none⟩ (.slice Aex nex cex)).setCell ⟨gp, 1, none⟩ (.slice Akx nkx ckx)).setCell ⟨gq, 0, none⟩ (.slice Aey ney cey)).setCell ⟨gq, 1, none⟩ (.slice Aky nky cky))) := by
                obtain ⟨W9, hW9⟩ : ∃ W, W = ((((x2657.setCell ⟨gp, 0, none⟩ (.slice Aex nex cex)).setCell ⟨gp, 1, none⟩ (.slice Akx nkx ckx)).setCell ⟨gq, 0, none⟩ (.slice Aey ney cey)).setCell ⟨gq, 1, none⟩ (.slice Aky nky cky)) := ⟨_, rfl⟩
                rw [← hW9]
                have hk : ∀ b, (b ≠ gp ∧ b ≠ gq) → b < x2657.heap.size → W9.heap[b]? = x2657.heap[b]? := fun b hb _ => by
                  rw [hW9]
                  exact (((Below.heap_setCell _ ⟨gq, 1, none⟩ _ b (fun e => hb.2 e)).trans (Below.heap_setCell _ ⟨gq, 0, none⟩ _ b (fun e => hb.2 e))).trans (Below.heap_setCell _ ⟨gp, 1, none⟩ _ b (fun e => hb.1 e))).trans (Below.heap_setCell _ ⟨gp, 0, none⟩ _ b (fun e => hb.1 e))
                have hs : x2657.heap.size ≤ W9.heap.size := by rw [hW9]; simp [World.setCell]
                have hb : Below u3.heap.size u3 W9 := by
                  rw [hW9]
                  exact (((HBV.out.setCell (p := ⟨gp, 0, none⟩) hvp _).setCell (p := ⟨gp, 1, none⟩) hvp _).setCell (p := ⟨gq, 0, none⟩) hvq _).setCell (p := ⟨gq, 1, none⟩) hvq _
                refine ⟨RdO.rd _ (RdO.keep hs hk _ HNp.out), RdO.rd _ (RdO.keep hs hk _ HNq.out), ?_⟩
                refine ((((Kept.nil_of hb).cons_of ?_).cons_of ?_).cons_of ?_).cons_of ?_ <;> (rw [hW9]; go_simp)
              clear zp0 mp0 zp1 mp1 zq0 mq0 zq1 mq1
              go_wp2_with fail
              go_meet
              exact ⟨gp, gq, ⟨Aex, nex, cex⟩, ⟨Akx, nkx, ckx⟩, ⟨Aey, ney, cey⟩, ⟨Aky, nky, cky⟩, rfl, rfl, HMID.out⟩
            · go_simp
              refine hK.out _ _ ?_ (fun hHeld2 => ?_)
              · exact ⟨(HKc.out.alloc _).c0, (HKc.out.alloc _).c1⟩
              clear hK K hHeld
              have hHeld := hHeld2
              clear hHeld2
              obtain ⟨gq, hgq⟩ : ∃ g, g = x26.heap.size := ⟨_, rfl⟩
              obtain ⟨x267, hx267⟩ : ∃ W, W = x26.alloc (.cells #[.slice none 0 0, .slice none 0 0] 25) := ⟨_, rfl⟩
              have HBX : Hid (u3.heap.size ≤ x26.heap.size) := HBV.out.size
              have hb9 : Below x26.heap.size x26 x267 := by rw [hx267]; exact Dt.box_below _ _ _
              have e0 : x267.cell? ⟨gq, 0, none⟩ = some (.slice none 0 0) := by rw [hx267, hgq]; go_simp
              have e1 : x267.cell? ⟨gq, 1, none⟩ = some (.slice none 0 0) := by rw [hx267, hgq]; go_simp
              have HNp := Lib.hid (RdO.later (RdO.mono (ok' := fun b => b ≠ gp ∧ b ≠ gq) (fun b hb hlt => ⟨hb, by omega⟩) _ HNp.out) hb9)
              have HKc := Lib.hid (HKc.out.later hb9)
              have HBV := Lib.hid (HBV.out.trans (hb9.mono HBV.out.size))
              have HZp := Lib.hid (HZp.out.later hb9)
              have HFp := Lib.hid (HFp.out.later hb9)
              have hltp : gp < x267.heap.size := HFp.out.1
              have HZq : Hid (Kept [(⟨gq, 0, none⟩, .slice none 0 0), (⟨gq, 1, none⟩, .slice none 0 0)] u3 x267) := ((Kept.nil_of HBV.out).cons_of e1).cons_of e0
              have HFq : Hid (Free gq x267) := ⟨by rw [hx267, hgq]; simp, fun j => by rw [hx267, hgq]; go_simp⟩
              have hltq : gq < x267.heap.size := HFq.out.1
              have hvq : u3.heap.size ≤ gq := by rw [hgq]; exact HBX.out
              have hne1 : ¬ gp = gq := by omega
              have hne2 : ¬ gq = gp := by omega
              (try rw [← hx267] at hHeld)
              rw [← hgq, ← hx267]
              clear hgq hx267 hb9 e0 e1
              try simp only [Act.put, List.setIfInBounds_toArray, List.set_cons_zero, List.set_cons_succ]
              refine wpAnyH_ready (rs := [5]) (by kernel_rfl) (by simp) ?_
              refine AllReadyH.cons (o := ⟨some 27, _, _, _, _, _⟩) rfl (fun K hK => ?_) AllReadyH.nil
              go_simp
              (go_at_call 8; refine (without_any t Aet Akt net nkt cet ckt x267 l Al nl cl HNl.out (by omega) (Rl.out.later HBV.out) HLt.out (by have := HN60.out; omega) (RdT.later Rt.out HBV.out)).mono ?_)
              rw [HYY.out]
              rintro e x2675 ⟨Aey, ney, cey, Aky, nky, cky, rfl, hro, hb9⟩
              have HNq : Hid (RdO x2675 (fun b => b ≠ gp ∧ b ≠ gq) y ⟨Aey, ney, cey⟩ ⟨Aky, nky, cky⟩) := RdO.mono (fun b hb _ => ⟨by omega, by omega⟩) _ hro
              clear hro
              have HKc := Lib.hid (HKc.out.later hb9)
              have HBV := Lib.hid (HBV.out.trans (hb9.mono HBV.out.size))
              have HNp := Lib.hid (RdO.later HNp.out hb9)
              have HZp := Lib.hid (HZp.out.later hb9)
              have HFp := Lib.hid (HFp.out.later hb9)
              have hltp : gp < x2675.heap.size := HFp.out.1
              have HZq := Lib.hid (HZq.out.later hb9)
              have HFq := Lib.hid (HFq.out.later hb9)
              have hltq : gq < x2675.heap.size := HFq.out.1
              clear hb9
              have zp0 := HZp.out.c0
              have mp0 := HFp.out.2 0
              have zp1 := HZp.out.c1
              have mp1 := HFp.out.2 1
              have zq0 := HZq.out.c0
              have mq0 := HFq.out.2 0
              have zq1 := HZq.out.c1
              have mq1 := HFq.out.2 1
              refine hK.out _ _ ?_ (fun hHeld2 => ?_)
              · exact ⟨HKc.out.c0, HKc.out.c1⟩
              clear hK K hHeld
              have hHeld := hHeld2
              clear hHeld2
              try simp only [Act.put, List.setIfInBounds_toArray, List.set_cons_zero, List.set_cons_succ]
              refine wpAnyH_ready (rs := [8]) (by kernel_rfl) (by simp) ?_
              refine AllReadyH.cons (o := ⟨none, _, _, _, _, _⟩) rfl (fun K hK => ?_) AllReadyH.nil
              go_simp
              refine hK.out _ _ ?_ (fun hHeld2 => ?_)
              · (try dsimp only)
                have h9 := HKc.out
                have h9 := h9.set (a := ⟨gp, 0, none⟩) (Nat.le_trans hwv hvp) (fun x hx => by simp at hx; rcases hx with rfl | rfl <;> (dsimp only; omega)) (.slice Aex nex cex)
                have h9 := h9.set (a := ⟨gp, 1, none⟩) (Nat.le_trans hwv hvp) (fun x hx => by simp at hx; rcases hx with rfl | rfl <;> (dsimp only; omega)) (.slice Akx nkx ckx)
                exact ⟨h9.c0, h9.c1⟩
              clear hK K hHeld
              have hHeld := hHeld2
              clear hHeld2
              try simp only [Act.put, List.setIfInBounds_toArray, List.set_cons_zero, List.set_cons_succ]
              refine wpAnyH_ready (rs := [9]) (by kernel_rfl) (by simp) ?_
              refine AllReadyH.cons (o := ⟨none, _, _, _, _, _⟩) rfl (fun K hK => ?_) AllReadyH.nil
              go_simp
              refine hK.out _ _ ?_ (fun hHeld2 => ?_)
              · (try dsimp only)
                have h9 := HKc.out
                have h9 := h9.set (a := ⟨gp, 0, none⟩) (Nat.le_trans hwv hvp) (fun x hx => by simp at hx; rcases hx with rfl | rfl <;> (dsimp only; omega)) (.slice Aex nex cex)
                have h9 := h9.set (a := ⟨gp, 1, none⟩) (Nat.le_trans hwv hvp) (fun x hx => by simp at hx; rcases hx with rfl | rfl <;> (dsimp only; omega)) (.slice Akx nkx ckx)
                have h9 := h9.set (a := ⟨gq, 0, none⟩) (Nat.le_trans hwv hvq) (fun x hx => by simp at hx; rcases hx with rfl | rfl <;> (dsimp only; omega)) (.slice Aey ney cey)
                have h9 := h9.set (a := ⟨gq, 1, none⟩) (Nat.le_trans hwv hvq) (fun x hx => by simp at hx; rcases hx with rfl | rfl <;> (dsimp only; omega)) (.slice Aky nky cky)
                exact ⟨h9.c0, h9.c1⟩
              clear hK K hHeld
              have hHeld := hHeld2
              clear hHeld2
              try simp only [Act.put, List.setIfInBounds_toArray, List.set_cons_zero, List.set_cons_succ]
              refine wpAnyH_done (by kernel_rfl) ?_ _
              clear hHeld
              have HMID : Hid (MidT u3 gp gq x y ⟨Aex, nex, cex⟩ ⟨Akx, nkx, ckx⟩ ⟨Aey, ney, cey⟩ ⟨Aky, nky, cky⟩ ((((x2675.setCell ⟨gp, 0, none⟩ (.slice Aex nex cex)).setCell ⟨gp, 1, none⟩ (.slice Akx nkx ckx)).setCell ⟨gq, 0, none⟩ (.slice Aey ney cey)).setCell ⟨gq, 1, none⟩ (.slice Aky nky cky))) := by
                obtain ⟨W9, hW9⟩ : ∃ W, W = ((((x2675.setCell ⟨gp, 0, none⟩ (.slice Aex nex cex)).setCell ⟨gp, 1, none⟩ (.slice Akx nkx ckx)).setCell ⟨gq, 0, none⟩ (.slice Aey ney cey)).setCell ⟨gq, 1, none⟩ (.slice Aky nky cky)) := ⟨_, rfl⟩
                rw [← hW9]
                have hk : ∀ b, (b ≠ gp ∧ b ≠ gq) → b < x2675.heap.size → W9.heap[b]? = x2675.heap[b]? := fun b hb _ => by
                  rw [hW9]
                  exact (((Below.heap_setCell _ ⟨gq, 1, none⟩ _ b (fun e => hb.2 e)).trans (Below.heap_setCell _ ⟨gq, 0, none⟩ _ b (fun e => hb.2 e))).trans (Below.heap_setCell _ ⟨gp, 1, none⟩ _ b (fun e => hb.1 e))).trans (Below.heap_setCell _ ⟨gp, 0, none⟩ _ b (fun e => hb.1 e))
                have hs : x2675.heap.size ≤ W9.heap.size := by rw [hW9]; simp [World.setCell]
                have hb : Below u3.heap.size u3 W9 := by
                  rw [hW9]
                  exact (((HBV.out.setCell (p := ⟨gp, 0, none⟩) hvp _).setCell (p := ⟨gp, 1, none⟩) hvp _).setCell (p := ⟨gq, 0, none⟩) hvq _).setCell (p := ⟨gq, 1, none⟩) hvq _
                refine ⟨RdO.rd _ (RdO.keep hs hk _ HNp.out), RdO.rd _ (RdO.keep hs hk _ HNq.out), ?_⟩
                refine ((((Kept.nil_of hb).cons_of ?_).cons_of ?_).cons_of ?_).cons_of ?_ <;> (rw [hW9]; go_simp)
              clear zp0 mp0 zp1 mp1 zq0 mq0 zq1 mq1
              go_wp2_with fail
              go_meet
              exact ⟨gp, gq, ⟨Aex, nex, cex⟩, ⟨Akx, nkx, ckx⟩, ⟨Aey, ney, cey⟩, ⟨Aky, nky, cky⟩, rfl, rfl, HMID.out⟩
          · go_simp
            refine hK.out _ _ ?_ (fun hHeld2 => ?_)
            · exact ⟨(HKc.out.alloc _).c0, (HKc.out.alloc _).c1⟩
            clear hK K hHeld
            have hHeld := hHeld2
            clear hHeld2
            obtain ⟨gq, hgq⟩ : ∃ g, g = x2.heap.size := ⟨_, rfl⟩
            obtain ⟨x27, hx27⟩ : ∃ W, W = x2.alloc (.cells #[.slice none 0 0, .slice none 0 0] 25) := ⟨_, rfl⟩
            have HBX : Hid (u3.heap.size ≤ x2.heap.size) := HBV.out.size
            have hb9 : Below x2.heap.size x2 x27 := by rw [hx27]; exact Dt.box_below _ _ _
            have e0 : x27.cell? ⟨gq, 0, none⟩ = some (.slice none 0 0) := by rw [hx27, hgq]; go_simp
            have e1 : x27.cell? ⟨gq, 1, none⟩ = some (.slice none 0 0) := by rw [hx27, hgq]; go_simp
            have HNp := Lib.hid (RdO.later (RdO.mono (ok' := fun b => b ≠ gq) (fun b hb hlt => by omega) _ HNp.out) hb9)
            have HKc := Lib.hid (HKc.out.later hb9)
            have HBV := Lib.hid (HBV.out.trans (hb9.mono HBV.out.size))
            have HZq : Hid (Kept [(⟨gq, 0, none⟩, .slice none 0 0), (⟨gq, 1, none⟩, .slice none 0 0)] u3 x27) := ((Kept.nil_of HBV.out).cons_of e1).cons_of e0
            have HFq : Hid (Free gq x27) := ⟨by rw [hx27, hgq]; simp, fun j => by rw [hx27, hgq]; go_simp⟩
            have hltq : gq < x27.heap.size := HFq.out.1
            have hvq : u3.heap.size ≤ gq := by rw [hgq]; exact HBX.out
            (try rw [← hx27] at hHeld)
            rw [← hgq, ← hx27]
            clear hgq hx27 hb9 e0 e1
            try simp only [Act.put, List.setIfInBounds_toArray, List.set_cons_zero, List.set_cons_succ]
            refine wpAnyH_ready (rs := [5, 6]) (by kernel_rfl) (by simp) ?_
            refine AllReadyH.cons (o := ⟨some 27, _, _, _, _, _⟩) rfl (fun K hK => ?_) (AllReadyH.cons (o := ⟨some 5, _, _, _, _, _⟩) rfl (fun K hK => ?_) (AllReadyH.nil))
            · go_simp
              (go_at_call 8; refine (without_any t Aet Akt net nkt cet ckt x27 l Al nl cl HNl.out (by omega) (Rl.out.later HBV.out) HLt.out (by have := HN60.out; omega) (RdT.later Rt.out HBV.out)).mono ?_)
              rw [HYY.out]
              rintro e x275 ⟨Aey, ney, cey, Aky, nky, cky, rfl, hro, hb9⟩
              have HNq : Hid (RdO x275 (fun b => b ≠ gq) y ⟨Aey, ney, cey⟩ ⟨Aky, nky, cky⟩) := RdO.mono (fun b hb _ => by omega) _ hro
              clear hro
              have HKc := Lib.hid (HKc.out.later hb9)
              have HBV := Lib.hid (HBV.out.trans (hb9.mono HBV.out.size))
              have HNp := Lib.hid (RdO.later HNp.out hb9)
              have HZq := Lib.hid (HZq.out.later hb9)
              have HFq := Lib.hid (HFq.out.later hb9)
              have hltq : gq < x275.heap.size := HFq.out.1
              clear hb9
              refine hK.out _ _ ?_ (fun hHeld2 => ?_)
              · exact ⟨HKc.out.c0, HKc.out.c1⟩
              clear hK K hHeld
              have hHeld := hHeld2
              clear hHeld2
              try simp only [Act.put, List.setIfInBounds_toArray, List.set_cons_zero, List.set_cons_succ]
              refine wpAnyH_ready (rs := [6]) (by kernel_rfl) (by simp) ?_
              refine AllReadyH.cons (o := ⟨some 5, _, _, _, _, _⟩) rfl (fun K hK => ?_) AllReadyH.nil
              go_simp
              refine hK.out _ _ ?_ (fun hHeld2 => ?_)
              · exact ⟨(HKc.out.alloc _).c0, (HKc.out.alloc _).c1⟩
              clear hK K hHeld
              have hHeld := hHeld2
              clear hHeld2
              obtain ⟨gp, hgp⟩ : ∃ g, g = x275.heap.size := ⟨_, rfl⟩
              obtain ⟨x2756, hx2756⟩ : ∃ W, W = x275.alloc (.cells #[.slice none 0 0, .slice none 0 0] 25) := ⟨_, rfl⟩
              have HBX : Hid (u3.heap.size ≤ x275.heap.size) := HBV.out.size
              have hb9 : Below x275.heap.size x275 x2756 := by rw [hx2756]; exact Dt.box_below _ _ _
              have e0 : x2756.cell? ⟨gp, 0, none⟩ = some (.slice none 0 0) := by rw [hx2756, hgp]; go_simp
              have e1 : x2756.cell? ⟨gp, 1, none⟩ = some (.slice none 0 0) := by rw [hx2756, hgp]; go_simp
              have HNp := Lib.hid (RdO.later (RdO.mono (ok' := fun b => b ≠ gp ∧ b ≠ gq) (fun b hb hlt => ⟨by omega, hb⟩) _ HNp.out) hb9)
              have HNq := Lib.hid (RdO.later (RdO.mono (ok' := fun b => b ≠ gp ∧ b ≠ gq) (fun b hb hlt => ⟨by omega, hb⟩) _ HNq.out) hb9)
              have HKc := Lib.hid (HKc.out.later hb9)
              have HBV := Lib.hid (HBV.out.trans (hb9.mono HBV.out.size))
              have HZq := Lib.hid (HZq.out.later hb9)
              have HFq := Lib.hid (HFq.out.later hb9)
              have hltq : gq < x2756.heap.size := HFq.out.1
              have HZp : Hid (Kept [(⟨gp, 0, none⟩, .slice none 0 0), (⟨gp, 1, none⟩, .slice none 0 0)] u3 x2756) := ((Kept.nil_of HBV.out).cons_of e1).cons_of e0
              have HFp : Hid (Free gp x2756) := ⟨by rw [hx2756, hgp]; simp, fun j => by rw [hx2756, hgp]; go_simp⟩
              have hltp : gp < x2756.heap.size := HFp.out.1
              have hvp : u3.heap.size ≤ gp := by rw [hgp]; exact HBX.out
              have hne1 : ¬ gp = gq := by omega
              have hne2 : ¬ gq = gp := by omega
              (try rw [← hx2756] at hHeld)
              rw [← hgp, ← hx2756]
              clear hgp hx2756 hb9 e0 e1
              have zp0 := HZp.out.c0
              have mp0 := HFp.out.2 0
              have zp1 := HZp.out.c1
              have mp1 := HFp.out.2 1
              have zq0 := HZq.out.c0
              have mq0 := HFq.out.2 0
              have zq1 := HZq.out.c1
              have mq1 := HFq.out.2 1
              try simp only [Act.put, List.setIfInBounds_toArray, List.set_cons_zero, List.set_cons_succ]
              refine wpAnyH_ready (rs := [8]) (by kernel_rfl) (by simp) ?_
              refine AllReadyH.cons (o := ⟨none, _, _, _, _, _⟩) rfl (fun K hK => ?_) AllReadyH.nil
              go_simp
              refine hK.out _ _ ?_ (fun hHeld2 => ?_)
              · (try dsimp only)
                have h9 := HKc.out
                have h9 := h9.set (a := ⟨gp, 0, none⟩) (Nat.le_trans hwv hvp) (fun x hx => by simp at hx; rcases hx with rfl | rfl <;> (dsimp only; omega)) (.slice Aex nex cex)
                have h9 := h9.set (a := ⟨gp, 1, none⟩) (Nat.le_trans hwv hvp) (fun x hx => by simp at hx; rcases hx with rfl | rfl <;> (dsimp only; omega)) (.slice Akx nkx ckx)
                exact ⟨h9.c0, h9.c1⟩
              clear hK K hHeld
              have hHeld := hHeld2
              clear hHeld2
              try simp only [Act.put, List.setIfInBounds_toArray, List.set_cons_zero, List.set_cons_succ]
              refine wpAnyH_ready (rs := [9]) (by kernel_rfl) (by simp) ?_
              refine AllReadyH.cons (o := ⟨none, _, _, _, _, _⟩) rfl (fun K hK => ?_) AllReadyH.nil
              go_simp
              refine hK.out _ _ ?_ (fun hHeld2 => ?_)
              · (try dsimp only)
                have h9 := HKc.out
                have h9 := h9.set (a := ⟨gp, 0, none⟩) (Nat.le_trans hwv hvp) (fun x hx => by simp at hx; rcases hx with rfl | rfl <;> (dsimp only; omega)) (.slice Aex nex cex)
                have h9 := h9.set (a := ⟨gp, 1, none⟩) (Nat.le_trans hwv hvp) (fun x hx => by simp at hx; rcases hx with rfl | rfl <;> (dsimp only; omega)) (.slice Akx nkx ckx)
                have h9 := h9.set (a := ⟨gq, 0, none⟩) (Nat.le_trans hwv hvq) (fun x hx => by simp at hx; rcases hx with rfl | rfl <;> (dsimp only; omega)) (.slice Aey ney cey)
                have h9 := h9.set (a := ⟨gq, 1, none⟩) (Nat.le_trans hwv hvq) (fun x hx => by simp at hx; rcases hx with rfl | rfl <;> (dsimp only; omega)) (.slice Aky nky cky)
                exact ⟨h9.c0, h9.c1⟩
              clear hK K hHeld
              have hHeld := hHeld2
              clear hHeld2
              try simp only [Act.put, List.setIfInBounds_toArray, List.set_cons_zero, List.set_cons_succ]
              refine wpAnyH_done (by kernel_rfl) ?_ _
              clear hHeld
              have HMID : Hid (MidT u3 gp gq x y ⟨Aex, nex, cex⟩ ⟨Akx, nkx, ckx⟩ ⟨Aey, ney, cey⟩ ⟨Aky, nky, cky⟩ ((((x2756.setCell ⟨gp, 0, none⟩ (.slice Aex nex cex)).setCell ⟨gp, 1, none⟩ (.slice Akx nkx ckx)).setCell ⟨gq, 0, none⟩ (.slice Aey ney cey)).setCell ⟨gq, 1, none⟩ (.slice Aky nky cky))) := by
                obtain ⟨W9, hW9⟩ : ∃ W, W = ((((x2756.setCell ⟨gp, 0, none⟩ (.slice Aex nex cex)).setCell ⟨gp, 1, none⟩ (.slice Akx nkx ckx)).setCell ⟨gq, 0, none⟩ (.slice Aey ney cey)).setCell ⟨gq, 1, none⟩ (.slice Aky nky cky)) := ⟨_, rfl⟩
                rw [← hW9]
                have hk : ∀ b, (b ≠ gp ∧ b ≠ gq) → b < x2756.heap.size → W9.heap[b]? = x2756.heap[b]? := fun b hb _ => by
                  rw [hW9]
                  exact (((Below.heap_setCell _ ⟨gq, 1, none⟩ _ b (fun e => hb.2 e)).trans (Below.heap_setCell _ ⟨gq, 0, none⟩ _ b (fun e => hb.2 e))).trans (Below.heap_setCell _ ⟨gp, 1, none⟩ _ b (fun e => hb.1 e))).trans (Below.heap_setCell _ ⟨gp, 0, none⟩ _ b (fun e => hb.1 e))
                have hs : x2756.heap.size ≤ W9.heap.size := by rw [hW9]; simp [World.setCell]
                have hb : Below u3.heap.size u3 W9 := by
                  rw [hW9]
                  exact (((HBV.out.setCell (p := ⟨gp, 0, none⟩) hvp _).setCell (p := ⟨gp, 1, none⟩) hvp _).setCell (p := ⟨gq, 0, none⟩) hvq _).setCell (p := ⟨gq, 1, none⟩) hvq _
                refine ⟨RdO.rd _ (RdO.keep hs hk _ HNp.out), RdO.rd _ (RdO.keep hs hk _ HNq.out), ?_⟩
                refine ((((Kept.nil_of hb).cons_of ?_).cons_of ?_).cons_of ?_).cons_of ?_ <;> (rw [hW9]; go_simp)
              clear zp0 mp0 zp1 mp1 zq0 mq0 zq1 mq1
              go_wp2_with fail
              go_meet
              exact ⟨gp, gq, ⟨Aex, nex, cex⟩, ⟨Akx, nkx, ckx⟩, ⟨Aey, ney, cey⟩, ⟨Aky, nky, cky⟩, rfl, rfl, HMID.out⟩
            · go_simp
              refine hK.out _ _ ?_ (fun hHeld2 => ?_)
              · exact ⟨(HKc.out.alloc _).c0, (HKc.out.alloc _).c1⟩
              clear hK K hHeld
              have hHeld := hHeld2
              clear hHeld2
              obtain ⟨gp, hgp⟩ : ∃ g, g = x27.heap.size := ⟨_, rfl⟩
              obtain ⟨x276, hx276⟩ : ∃ W, W = x27.alloc (.cells #[.slice none 0 0, .slice none 0 0] 25) := ⟨_, rfl⟩
              have HBX : Hid (u3.heap.size ≤ x27.heap.size) := HBV.out.size
              have hb9 : Below x27.heap.size x27 x276 := by rw [hx276]; exact Dt.box_below _ _ _
              have e0 : x276.cell? ⟨gp, 0, none⟩ = some (.slice none 0 0) := by rw [hx276, hgp]; go_simp
              have e1 : x276.cell? ⟨gp, 1, none⟩ = some (.slice none 0 0) := by rw [hx276, hgp]; go_simp
              have HNp := Lib.hid (RdO.later (RdO.mono (ok' := fun b => b ≠ gp ∧ b ≠ gq) (fun b hb hlt => ⟨by omega, hb⟩) _ HNp.out) hb9)
              have HKc := Lib.hid (HKc.out.later hb9)
              have HBV := Lib.hid (HBV.out.trans (hb9.mono HBV.out.size))
              have HZq := Lib.hid (HZq.out.later hb9)
              have HFq := Lib.hid (HFq.out.later hb9)
              have hltq : gq < x276.heap.size := HFq.out.1
              have HZp : Hid (Kept [(⟨gp, 0, none⟩, .slice none 0 0), (⟨gp, 1, none⟩, .slice none 0 0)] u3 x276) := ((Kept.nil_of HBV.out).cons_of e1).cons_of e0
              have HFp : Hid (Free gp x276) := ⟨by rw [hx276, hgp]; simp, fun j => by rw [hx276, hgp]; go_simp⟩
              have hltp : gp < x276.heap.size := HFp.out.1
              have hvp : u3.heap.size ≤ gp := by rw [hgp]; exact HBX.out
              have hne1 : ¬ gp = gq := by omega
              have hne2 : ¬ gq = gp := by omega
              (try rw [← hx276] at hHeld)
              rw [← hgp, ← hx276]
              clear hgp hx276 hb9 e0 e1
              try simp only [Act.put, List.setIfInBounds_toArray, List.set_cons_zero, List.set_cons_succ]
              refine wpAnyH_ready (rs := [5]) (by kernel_rfl) (by simp) ?_
              refine AllReadyH.cons (o := ⟨some 27, _, _, _, _, _⟩) rfl (fun K hK => ?_) AllReadyH.nil
              go_simp
              (go_at_call 8; refine (without_any t Aet Akt net nkt cet ckt x276 l Al nl cl HNl.out (by omega) (Rl.out.later HBV.out) HLt.out (by have := HN60.out; omega) (RdT.later Rt.out HBV.out)).mono ?_)
              rw [HYY.out]
              rintro e x2765 ⟨Aey, ney, cey, Aky, nky, cky, rfl, hro, hb9⟩
              have HNq : Hid (RdO x2765 (fun b => b ≠ gp ∧ b ≠ gq) y ⟨Aey, ney, cey⟩ ⟨Aky, nky, cky⟩) := RdO.mono (fun b hb _ => ⟨by omega, by omega⟩) _ hro
              clear hro
              have HKc := Lib.hid (HKc.out.later hb9)
              have HBV := Lib.hid (HBV.out.trans (hb9.mono HBV.out.size))
              have HNp := Lib.hid (RdO.later HNp.out hb9)
              have HZp := Lib.hid (HZp.out.later hb9)
              have HFp := Lib.hid (HFp.out.later hb9)
              have hltp : gp < x2765.heap.size := HFp.out.1
              have HZq := Lib.hid (HZq.out.later hb9)
              have HFq := Lib.hid (HFq.out.later hb9)
              have hltq : gq < x2765.heap.size := HFq.out.1
              clear hb9
              have zp0 := HZp.out.c0
              have mp0 := HFp.out.2 0
              have zp1 := HZp.out.c1
              have mp1 := HFp.out.2 1
              have zq0 := HZq.out.c0
              have mq0 := HFq.out.2 0
              have zq1 := HZq.out.c1
              have mq1 := HFq.out.2 1
              refine hK.out _ _ ?_ (fun hHeld2 => ?_)
              · exact ⟨HKc.out.c0, HKc.out.c1⟩
              clear hK K hHeld
              have hHeld := hHeld2
              clear hHeld2
              try simp only [Act.put, List.setIfInBounds_toArray, List.set_cons_zero, List.set_cons_succ]
              refine wpAnyH_ready (rs := [8]) (by kernel_rfl) (by simp) ?_
              refine AllReadyH.cons (o := ⟨none, _, _, _, _, _⟩) rfl (fun K hK => ?_) AllReadyH.nil
              go_simp
              refine hK.out _ _ ?_ (fun hHeld2 => ?_)
              · (try dsimp only)
                have h9 := HKc.out
                have h9 := h9.set (a := ⟨gp, 0, none⟩) (Nat.le_trans hwv hvp) (fun x hx => by simp at hx; rcases hx with rfl | rfl <;> (dsimp only; omega)) (.slice Aex nex cex)
                have h9 := h9.set (a := ⟨gp, 1, none⟩) (Nat.le_trans hwv hvp) (fun x hx => by simp at hx; rcases hx with rfl | rfl <;> (dsimp only; omega)) (.slice Akx nkx ckx)
                exact ⟨h9.c0, h9.c1⟩
              clear hK K hHeld
              have hHeld := hHeld2
              clear hHeld2
              try simp only [Act.put, List.setIfInBounds_toArray, List.set_cons_zero, List.set_cons_succ]
              refine wpAnyH_ready (rs := [9]) (by kernel_rfl) (by simp) ?_
              refine AllReadyH.cons (o := ⟨none, _, _, _, _, _⟩) rfl (fun K hK => ?_) AllReadyH.nil
              go_simp
              refine hK.out _ _ ?_ (fun hHeld2 => ?_)
              · (try dsimp only)
                have h9 := HKc.out
                have h9 := h9.set (a := ⟨gp, 0, none⟩) (Nat.le_trans hwv hvp) (fun x hx => by simp at hx; rcases hx with rfl | rfl <;> (dsimp only; omega)) (.slice Aex nex cex)
                have h9 := h9.set (a := ⟨gp, 1, none⟩) (Nat.le_trans hwv hvp) (fun x hx => by simp at hx; rcases hx with rfl | rfl <;> (dsimp only; omega)) (.slice Akx nkx ckx)
                have h9 := h9.set (a := ⟨gq, 0, none⟩) (Nat.le_trans hwv hvq) (fun x hx => by simp at hx; rcases hx with rfl | rfl <;> (dsimp only; omega)) (.slice Aey ney cey)
                have h9 := h9.set (a := ⟨gq, 1, none⟩) (Nat.le_trans hwv hvq) (fun x hx => by simp at hx; rcases hx with rfl | rfl <;> (dsimp only; omega)) (.slice Aky nky cky)
                exact ⟨h9.c0, h9.c1⟩
              clear hK K hHeld
              have hHeld := hHeld2
              clear hHeld2
              try simp only [Act.put, List.setIfInBounds_toArray, List.set_cons_zero, List.set_cons_succ]
              refine wpAnyH_done (by kernel_rfl) ?_ _
              clear hHeld
              have HMID : Hid (MidT u3 gp gq x y ⟨Aex, nex, cex⟩ ⟨Akx, nkx, ckx⟩ ⟨Aey, ney, cey⟩ ⟨Aky, nky, cky⟩ ((((x2765.setCell ⟨gp, 0, none⟩ (.slice Aex nex cex)).setCell ⟨gp, 1, none⟩ (.slice Akx nkx ckx)).setCell ⟨gq, 0, none⟩ (.slice Aey ney cey)).setCell ⟨gq, 1, none⟩ (.slice Aky nky cky))) := by
                obtain ⟨W9, hW9⟩ : ∃ W, W = ((((x2765.setCell ⟨gp, 0, none⟩ (.slice Aex nex cex)).setCell ⟨gp, 1, none⟩ (.slice Akx nkx ckx)).setCell ⟨gq, 0, none⟩ (.slice Aey ney cey)).setCell ⟨gq, 1, none⟩ (.slice Aky nky cky)) := ⟨_, rfl⟩
                rw [← hW9]
                have hk : ∀ b, (b ≠ gp ∧ b ≠ gq) → b < x2765.heap.size → W9.heap[b]? = x2765.heap[b]? := fun b hb _ => by
                  rw [hW9]
                  exact (((Below.heap_setCell _ ⟨gq, 1, none⟩ _ b (fun e => hb.2 e)).trans (Below.heap_setCell _ ⟨gq, 0, none⟩ _ b (fun e => hb.2 e))).trans (Below.heap_setCell _ ⟨gp, 1, none⟩ _ b (fun e => hb.1 e))).trans (Below.heap_setCell _ ⟨gp, 0, none⟩ _ b (fun e => hb.1 e))
                have hs : x2765.heap.size ≤ W9.heap.size := by rw [hW9]; simp [World.setCell]
                have hb : Below u3.heap.size u3 W9 := by
                  rw [hW9]
                  exact (((HBV.out.setCell (p := ⟨gp, 0, none⟩) hvp _).setCell (p := ⟨gp, 1, none⟩) hvp _).setCell (p := ⟨gq, 0, none⟩) hvq _).setCell (p := ⟨gq, 1, none⟩) hvq _
                refine ⟨RdO.rd _ (RdO.keep hs hk _ HNp.out), RdO.rd _ (RdO.keep hs hk _ HNq.out), ?_⟩
                refine ((((Kept.nil_of hb).cons_of ?_).cons_of ?_).cons_of ?_).cons_of ?_ <;> (rw [hW9]; go_simp)
              clear zp0 mp0 zp1 mp1 zq0 mq0 zq1 mq1
              go_wp2_with fail
              go_meet
              exact ⟨gp, gq, ⟨Aex, nex, cex⟩, ⟨Akx, nkx, ckx⟩, ⟨Aey, ney, cey⟩, ⟨Aky, nky, cky⟩, rfl, rfl, HMID.out⟩
        · go_simp
          refine hK.out _ _ ?_ (fun hHeld2 => ?_)
          · exact ⟨(HKc.out.alloc _).c0, (HKc.out.alloc _).c1⟩
          clear hK K hHeld
          have hHeld := hHeld2
          clear hHeld2
          obtain ⟨gp, hgp⟩ : ∃ g, g = w1.heap.size := ⟨_, rfl⟩
          obtain ⟨x6, hx6⟩ : ∃ W, W = w1.alloc (.cells #[.slice none 0 0, .slice none 0 0] 25) := ⟨_, rfl⟩
          have HBX : Hid (u3.heap.size ≤ w1.heap.size) := HBV.out.size
          have hb9 : Below w1.heap.size w1 x6 := by rw [hx6]; exact Dt.box_below _ _ _
          have e0 : x6.cell? ⟨gp, 0, none⟩ = some (.slice none 0 0) := by rw [hx6, hgp]; go_simp
          have e1 : x6.cell? ⟨gp, 1, none⟩ = some (.slice none 0 0) := by rw [hx6, hgp]; go_simp
          have HKc := Lib.hid (HKc.out.later hb9)
          have HBV := Lib.hid (HBV.out.trans (hb9.mono HBV.out.size))
          have HZp : Hid (Kept [(⟨gp, 0, none⟩, .slice none 0 0), (⟨gp, 1, none⟩, .slice none 0 0)] u3 x6) := ((Kept.nil_of HBV.out).cons_of e1).cons_of e0
          have HFp : Hid (Free gp x6) := ⟨by rw [hx6, hgp]; simp, fun j => by rw [hx6, hgp]; go_simp⟩
          have hltp : gp < x6.heap.size := HFp.out.1
          have hvp : u3.heap.size ≤ gp := by rw [hgp]; exact HBX.out
          (try rw [← hx6] at hHeld)
          rw [← hgp, ← hx6]
          clear hgp hx6 hb9 e0 e1
          try simp only [Act.put, List.setIfInBounds_toArray, List.set_cons_zero, List.set_cons_succ]
          refine wpAnyH_ready (rs := [2, 7]) (by kernel_rfl) (by simp) ?_
          refine AllReadyH.cons (o := ⟨some 24, _, _, _, _, _⟩) rfl (fun K hK => ?_) (AllReadyH.cons (o := ⟨some 6, _, _, _, _, _⟩) rfl (fun K hK => ?_) (AllReadyH.nil))
          · go_simp
            (go_at_call 7; refine (only_any t Aet Akt net nkt cet ckt x6 l Al nl cl HNl.out (by omega) (Rl.out.later HBV.out) HLt.out (by have := HN60.out; omega) (RdT.later Rt.out HBV.out)).mono ?_)
            rw [HXX.out]
            rintro e x62 ⟨Aex, nex, cex, Akx, nkx, ckx, rfl, hro, hb9⟩
            have HNp : Hid (RdO x62 (fun b => b ≠ gp) x ⟨Aex, nex, cex⟩ ⟨Akx, nkx, ckx⟩) := RdO.mono (fun b hb _ => by omega) _ hro
            clear hro
            have HKc := Lib.hid (HKc.out.later hb9)
            have HBV := Lib.hid (HBV.out.trans (hb9.mono HBV.out.size))
            have HZp := Lib.hid (HZp.out.later hb9)
            have HFp := Lib.hid (HFp.out.later hb9)
            have hltp : gp < x62.heap.size := HFp.out.1
            clear hb9
            refine hK.out _ _ ?_ (fun hHeld2 => ?_)
            · exact ⟨HKc.out.c0, HKc.out.c1⟩
            clear hK K hHeld
            have hHeld := hHeld2
            clear hHeld2
            try simp only [Act.put, List.setIfInBounds_toArray, List.set_cons_zero, List.set_cons_succ]
            refine wpAnyH_ready (rs := [5, 7]) (by kernel_rfl) (by simp) ?_
            refine AllReadyH.cons (o := ⟨some 27, _, _, _, _, _⟩) rfl (fun K hK => ?_) (AllReadyH.cons (o := ⟨some 6, _, _, _, _, _⟩) rfl (fun K hK => ?_) (AllReadyH.nil))
            · go_simp
              (go_at_call 8; refine (without_any t Aet Akt net nkt cet ckt x62 l Al nl cl HNl.out (by omega) (Rl.out.later HBV.out) HLt.out (by have := HN60.out; omega) (RdT.later Rt.out HBV.out)).mono ?_)
              rw [HYY.out]
              rintro e x625 ⟨Aey, ney, cey, Aky, nky, cky, rfl, hro, hb9⟩
              have HNq : Hid (RdO x625 (fun b => b ≠ gp) y ⟨Aey, ney, cey⟩ ⟨Aky, nky, cky⟩) := RdO.mono (fun b hb _ => by omega) _ hro
              clear hro
              have HKc := Lib.hid (HKc.out.later hb9)
              have HBV := Lib.hid (HBV.out.trans (hb9.mono HBV.out.size))
              have HNp := Lib.hid (RdO.later HNp.out hb9)
              have HZp := Lib.hid (HZp.out.later hb9)
              have HFp := Lib.hid (HFp.out.later hb9)
              have hltp : gp < x625.heap.size := HFp.out.1
              clear hb9
              refine hK.out _ _ ?_ (fun hHeld2 => ?_)
              · exact ⟨HKc.out.c0, HKc.out.c1⟩
              clear hK K hHeld
              have hHeld := hHeld2
              clear hHeld2
              try simp only [Act.put, List.setIfInBounds_toArray, List.set_cons_zero, List.set_cons_succ]
              refine wpAnyH_ready (rs := [7]) (by kernel_rfl) (by simp) ?_
              refine AllReadyH.cons (o := ⟨some 6, _, _, _, _, _⟩) rfl (fun K hK => ?_) AllReadyH.nil
              go_simp
              refine hK.out _ _ ?_ (fun hHeld2 => ?_)
              · exact ⟨(HKc.out.alloc _).c0, (HKc.out.alloc _).c1⟩
              clear hK K hHeld
              have hHeld := hHeld2
              clear hHeld2
              obtain ⟨gq, hgq⟩ : ∃ g, g = x625.heap.size := ⟨_, rfl⟩
              obtain ⟨x6257, hx6257⟩ : ∃ W, W = x625.alloc (.cells #[.slice none 0 0, .slice none 0 0] 25) := ⟨_, rfl⟩
              have HBX : Hid (u3.heap.size ≤ x625.heap.size) := HBV.out.size
              have hb9 : Below x625.heap.size x625 x6257 := by rw [hx6257]; exact Dt.box_below _ _ _
              have e0 : x6257.cell? ⟨gq, 0, none⟩ = some (.slice none 0 0) := by rw [hx6257, hgq]; go_simp
              have e1 : x6257.cell? ⟨gq, 1, none⟩ = some (.slice none 0 0) := by rw [hx6257, hgq]; go_simp
              have HNp := Lib.hid (RdO.later (RdO.mono (ok' := fun b => b ≠ gp ∧ b ≠ gq) (fun b hb hlt => ⟨hb, by omega⟩) _ HNp.out) hb9)
              have HNq := Lib.hid (RdO.later (RdO.mono (ok' := fun b => b ≠ gp ∧ b ≠ gq) (fun b hb hlt => ⟨hb, by omega⟩) _ HNq.out) hb9)
              have HKc := Lib.hid (HKc.out.later hb9)
              have HBV := Lib.hid (HBV.out.trans (hb9.mono HBV.out.size))
              have HZp := Lib.hid (HZp.out.later hb9)
              have HFp := Lib.hid (HFp.out.later hb9)
              have hltp : gp < x6257.heap.size := HFp.out.1
              have HZq : Hid (Kept [(⟨gq, 0, none⟩, .slice none 0 0), (⟨gq, 1, none⟩, .slice none 0 0)] u3 x6257) := ((Kept.nil_of HBV.out).cons_of e1).cons_of e0
              have HFq : Hid (Free gq x6257) := ⟨by rw [hx6257, hgq]; simp, fun j => by rw [hx6257, hgq]; go_simp⟩
              have hltq : gq < x6257.heap.size := HFq.out.1
              have hvq : u3.heap.size ≤ gq := by rw [hgq]; exact HBX.out
              have hne1 : ¬ gp = gq := by omega
              have hne2 : ¬ gq = gp := by omega
              (try rw [← hx6257] at hHeld)
              rw [← hgq, ← hx6257]
              clear hgq hx6257 hb9 e0 e1
              have zp0 := HZp.out.c0
              have mp0 := HFp.out.2 0
              have zp1 := HZp.out.c1
              have mp1 := HFp.out.2 1
              have zq0 := HZq.out.c0
              have mq0 := HFq.out.2 0
              have zq1 := HZq.out.c1
              have mq1 := HFq.out.2 1
              try simp only [Act.put, List.setIfInBounds_toArray, List.set_cons_zero, List.set_cons_succ]
              refine wpAnyH_ready (rs := [8]) (by kernel_rfl) (by simp) ?_
              refine AllReadyH.cons (o := ⟨none, _, _, _, _, _⟩) rfl (fun K hK => ?_) AllReadyH.nil
              go_simp
              refine hK.out _ _ ?_ (fun hHeld2 => ?_)
              · (try dsimp only)
                have h9 := HKc.out
                have h9 := h9.set (a := ⟨gp, 0, none⟩) (Nat.le_trans hwv hvp) (fun x hx => by simp at hx; rcases hx with rfl | rfl <;> (dsimp only; omega)) (.slice Aex nex cex)
                have h9 := h9.set (a := ⟨gp, 1, none⟩) (Nat.le_trans hwv hvp) (fun x hx => by simp at hx; rcases hx with rfl | rfl <;> (dsimp only; omega)) (.slice Akx nkx ckx)
                exact ⟨h9.c0, h9.c1⟩
              clear hK K hHeld
              have hHeld := hHeld2
              clear hHeld2
              try simp only [Act.put, List.setIfInBounds_toArray, List.set_cons_zero, List.set_cons_succ]
              refine wpAnyH_ready (rs := [9]) (by kernel_rfl) (by simp) ?_
              refine AllReadyH.cons (o := ⟨none, _, _, _, _, _⟩) rfl (fun K hK => ?_) AllReadyH.nil
              go_simp
              refine hK.out _ _ ?_ (fun hHeld2 => ?_)
              · (try dsimp only)
                have h9 := HKc.out
                have h9 := h9.set (a := ⟨gp, 0, none⟩) (Nat.le_trans hwv hvp) (fun x hx => by simp at hx; rcases hx with rfl | rfl <;> (dsimp only; omega)) (.slice Aex nex cex)
                have h9 := h9.set (a := ⟨gp, 1, none⟩) (Nat.le_trans hwv hvp) (fun x hx => by simp at hx; rcases hx with rfl | rfl <;> (dsimp only; omega)) (.slice Akx nkx ckx)
                have h9 := h9.set (a := ⟨gq, 0, none⟩) (Nat.le_trans hwv hvq) (fun x hx => by simp at hx; rcases hx with rfl | rfl <;> (dsimp only; omega)) (.slice Aey ney cey)
                have h9 := h9.set (a := ⟨gq, 1, none⟩) (Nat.le_trans hwv hvq) (fun x hx => by simp at hx; rcases hx with rfl | rfl <;> (dsimp only; omega)) (.slice Aky nky cky)
                exact ⟨h9.c0, h9.c1⟩
              clear hK K hHeld
              have hHeld := hHeld2
              clear hHeld2
              try simp only [Act.put, List.setIfInBounds_toArray, List.set_cons_zero, List.set_cons_succ]
              refine wpAnyH_done (by kernel_rfl) ?_ _
              clear hHeld
              have HMID : Hid (MidT u3 gp gq x y ⟨Aex, nex, cex⟩ ⟨Akx, nkx, ckx⟩ ⟨Aey, ney, cey⟩ ⟨Aky, nky, cky⟩ ((((x6257.setCell ⟨gp, 0, none⟩ (.slice Aex nex cex)).setCell ⟨gp, 1, none⟩ (.slice Akx nkx ckx)).setCell ⟨gq, 0, none⟩ (.slice Aey ney cey)).setCell ⟨gq, 1, none⟩ (.slice Aky nky cky))) := by
                obtain ⟨W9, hW9⟩ : ∃ W, W = ((((x6257.setCell ⟨gp, 0, none⟩ (.slice Aex nex cex)).setCell ⟨gp, 1, none⟩ (.slice Akx nkx ckx)).setCell ⟨gq, 0, none⟩ (.slice Aey ney cey)).setCell ⟨gq, 1, none⟩ (.slice Aky nky cky)) := ⟨_, rfl⟩
                rw [← hW9]
                have hk : ∀ b, (b ≠ gp ∧ b ≠ gq) → b < x6257.heap.size → W9.heap[b]? = x6257.heap[b]? := fun b hb _ => by
                  rw [hW9]
                  exact (((Below.heap_setCell _ ⟨gq, 1, none⟩ _ b (fun e => hb.2 e)).trans (Below.heap_setCell _ ⟨gq, 0, none⟩ _ b (fun e => hb.2 e))).trans (Below.heap_setCell _ ⟨gp, 1, none⟩ _ b (fun e => hb.1 e))).trans (Below.heap_setCell _ ⟨gp, 0, none⟩ _ b (fun e => hb.1 e))
                have hs : x6257.heap.size ≤ W9.heap.size := by rw [hW9]; simp [World.setCell]
                have hb : Below u3.heap.size u3 W9 := by
                  rw [hW9]
                  exact (((HBV.out.setCell (p := ⟨gp, 0, none⟩) hvp _).setCell (p := ⟨gp, 1, none⟩) hvp _).setCell (p := ⟨gq, 0, none⟩) hvq _).setCell (p := ⟨gq, 1, none⟩) hvq _
                refine ⟨RdO.rd _ (RdO.keep hs hk _ HNp.out), RdO.rd _ (RdO.keep hs hk _ HNq.out), ?_⟩
                refine ((((Kept.nil_of hb).cons_of ?_).cons_of ?_).cons_of ?_).cons_of ?_ <;> (rw [hW9]; go_simp)
              clear zp0 mp0 zp1 mp1 zq0 mq0 zq1 mq1
              go_wp2_with fail
              go_meet
              exact ⟨gp, gq, ⟨Aex, nex, cex⟩, ⟨Akx, nkx, ckx⟩, ⟨Aey, ney, cey⟩, ⟨Aky, nky, cky⟩, rfl, rfl, HMID.out⟩
            · go_simp
              refine hK.out _ _ ?_ (fun hHeld2 => ?_)
              · exact ⟨(HKc.out.alloc _).c0, (HKc.out.alloc _).c1⟩
              clear hK K hHeld
              have hHeld := hHeld2
              clear hHeld2
              obtain ⟨gq, hgq⟩ : ∃ g, g = x62.heap.size := ⟨_, rfl⟩
              obtain ⟨x627, hx627⟩ : ∃ W, W = x62.alloc (.cells #[.slice none 0 0, .slice none 0 0] 25) := ⟨_, rfl⟩
              have HBX : Hid (u3.heap.size ≤ x62.heap.size) := HBV.out.size
              have hb9 : Below x62.heap.size x62 x627 := by rw [hx627]; exact Dt.box_below _ _ _
              have e0 : x627.cell? ⟨gq, 0, none⟩ = some (.slice none 0 0) := by rw [hx627, hgq]; go_simp
              have e1 : x627.cell? ⟨gq, 1, none⟩ = some (.slice none 0 0) := by rw [hx627, hgq]; go_simp
              have HNp := Lib.hid (RdO.later (RdO.mono (ok' := fun b => b ≠ gp ∧ b ≠ gq) (fun b hb hlt => ⟨hb, by omega⟩) _ HNp.out) hb9)
              have HKc := Lib.hid (HKc.out.later hb9)
              have HBV := Lib.hid (HBV.out.trans (hb9.mono HBV.out.size))
              have HZp := Lib.hid (HZp.out.later hb9)
              have HFp := Lib.hid (HFp.out.later hb9)
              have hltp : gp < x627.heap.size := HFp.out.1
              have HZq : Hid (Kept [(⟨gq, 0, none⟩, .slice none 0 0), (⟨gq, 1, none⟩, .slice none 0 0)] u3 x627) := ((Kept.nil_of HBV.out).cons_of e1).cons_of e0
              have HFq : Hid (Free gq x627) := ⟨by rw [hx627, hgq]; simp, fun j => by rw [hx627, hgq]; go_simp⟩
              have hltq : gq < x627.heap.size := HFq.out.1
              have hvq : u3.heap.size ≤ gq := by rw [hgq]; exact HBX.out
              have hne1 : ¬ gp = gq := by omega
              have hne2 : ¬ gq = gp := by omega
              (try rw [← hx627] at hHeld)
              rw [← hgq, ← hx627]
              clear hgq hx627 hb9 e0 e1
              try simp only [Act.put, List.setIfInBounds_toArray, List.set_cons_zero, List.set_cons_succ]
              refine wpAnyH_ready (rs := [5]) (by kernel_rfl) (by simp) ?_
              refine AllReadyH.cons (o := ⟨some 27, _, _, _, _, _⟩) rfl (fun K hK => ?_) AllReadyH.nil
              go_simp
              (go_at_call 8; refine (without_any t Aet Akt net nkt cet ckt x627 l Al nl cl HNl.out (by omega) (Rl.out.later HBV.out) HLt.out (by have := HN60.out; omega) (RdT.later Rt.out HBV.out)).mono ?_)
              rw [HYY.out]
              rintro e x6275 ⟨Aey, ney, cey, Aky, nky, cky, rfl, hro, hb9⟩
              have HNq : Hid (RdO x6275 (fun b => b ≠ gp ∧ b ≠ gq) y ⟨Aey, ney, cey⟩ ⟨Aky, nky, cky⟩) := RdO.mono (fun b hb _ => ⟨by omega, by omega⟩) _ hro
              clear hro
              have HKc := Lib.hid (HKc.out.later hb9)
              have HBV := Lib.hid (HBV.out.trans (hb9.mono HBV.out.size))
              have HNp := Lib.hid (RdO.later HNp.out hb9)
              have HZp := Lib.hid (HZp.out.later hb9)
              have HFp := Lib.hid (HFp.out.later hb9)
              have hltp : gp < x6275.heap.size := HFp.out.1
              have HZq := Lib.hid (HZq.out.later hb9)
              have HFq := Lib.hid (HFq.out.later hb9)
              have hltq : gq < x6275.heap.size := HFq.out.1
              clear hb9
              have zp0 := HZp.out.c0
              have mp0 := HFp.out.2 0
              have zp1 := HZp.out.c1
              have mp1 := HFp.out.2 1
              have zq0 := HZq.out.c0
              have mq0 := HFq.out.2 0
              have zq1 := HZq.out.c1
              have mq1 := HFq.out.2 1
              refine hK.out _ _ ?_ (fun hHeld2 => ?_)
              · exact ⟨HKc.out.c0, HKc.out.c1⟩
              clear hK K hHeld
              have hHeld := hHeld2
              clear hHeld2
              try simp only [Act.put, List.setIfInBounds_toArray, List.set_cons_zero, List.set_cons_succ]
              refine wpAnyH_ready (rs := [8]) (by kernel_rfl) (by simp) ?_
              refine AllReadyH.cons (o := ⟨none, _, _, _, _, _⟩) rfl (fun K hK => ?_) AllReadyH.nil
              go_simp
              refine hK.out _ _ ?_ (fun hHeld2 => ?_)
              · (try dsimp only)
                have h9 := HKc.out
                have h9 := h9.set (a := ⟨gp, 0, none⟩) (Nat.le_trans hwv hvp) (fun x hx => by simp at hx; rcases hx with rfl | rfl <;> (dsimp only; omega)) (.slice Aex nex cex)
                have h9 := h9.set (a := ⟨gp, 1, none⟩) (Nat.le_trans hwv hvp) (fun x hx => by simp at hx; rcases hx with rfl | rfl <;> (dsimp only; omega)) (.slice Akx nkx ckx)
                exact ⟨h9.c0, h9.c1⟩
              clear hK K hHeld
              have hHeld := hHeld2
              clear hHeld2
              try simp only [Act.put, List.setIfInBounds_toArray, List.set_cons_zero, List.set_cons_succ]
              refine wpAnyH_ready (rs := [9]) (by kernel_rfl) (by simp) ?_
              refine AllReadyH.cons (o := ⟨none, _, _, _, _, _⟩) rfl (fun K hK => ?_) AllReadyH.nil
              go_simp
              refine hK.out _ _ ?_ (fun hHeld2 => ?_)
              · (try dsimp only)
                have h9 := HKc.out
                have h9 := h9.set (a := ⟨gp, 0, none⟩) (Nat.le_trans hwv hvp) (fun x hx => by simp at hx; rcases hx with rfl | rfl <;> (dsimp only; omega)) (.slice Aex nex cex)
                have h9 := h9.set (a := ⟨gp, 1, none⟩) (Nat.le_trans hwv hvp) (fun x hx => by simp at hx; rcases hx with rfl | rfl <;> (dsimp only; omega)) (.slice Akx nkx ckx)
                have h9 := h9.set (a := ⟨gq, 0, none⟩) (Nat.le_trans hwv hvq) (fun x hx => by simp at hx; rcases hx with rfl | rfl <;> (dsimp only; omega)) (.slice Aey ney cey)
                have h9 := h9.set (a := ⟨gq, 1, none⟩) (Nat.le_trans hwv hvq) (fun x hx => by simp at hx; rcases hx with rfl | rfl <;> (dsimp only; omega)) (.slice Aky nky cky)
                exact ⟨h9.c0, h9.c1⟩
              clear hK K hHeld
              have hHeld := hHeld2
              clear hHeld2
              try simp only [Act.put, List.setIfInBounds_toArray, List.set_cons_zero, List.set_cons_succ]
              refine wpAnyH_done (by kernel_rfl) ?_ _
              clear hHeld
              have HMID : Hid (MidT u3 gp gq x y ⟨Aex, nex, cex⟩ ⟨Akx, nkx, ckx⟩ ⟨Aey, ney, cey⟩ ⟨Aky, nky, cky⟩ ((((x6275.setCell ⟨gp, 0, none⟩ (.slice Aex nex cex)).setCell ⟨gp, 1, none⟩ (.slice Akx nkx ckx)).setCell ⟨gq, 0, none⟩ (.slice Aey ney cey)).setCell ⟨gq, 1, none⟩ (.slice Aky nky cky))) := by
                obtain ⟨W9, hW9⟩ : ∃ W, W = ((((x6275.setCell ⟨gp, 0, none⟩ (.slice Aex nex cex)).setCell ⟨gp, 1, none⟩ (.slice Akx nkx ckx)).setCell ⟨gq, 0, none⟩ (.slice Aey ney cey)).setCell ⟨gq, 1, none⟩ (.slice Aky nky cky)) := ⟨_, rfl⟩
                rw [← hW9]
                have hk : ∀ b, (b ≠ gp ∧ b ≠ gq) → b < x6275.heap.size → W9.heap[b]? = x6275.heap[b]? := fun b hb _ => by
                  rw [hW9]
                  exact (((Below.heap_setCell _ ⟨gq, 1, none⟩ _ b (fun e => hb.2 e)).trans (Below.heap_setCell _ ⟨gq, 0, none⟩ _ b (fun e => hb.2 e))).trans (Below.heap_setCell _ ⟨gp, 1, none⟩ _ b (fun e => hb.1 e))).trans (Below.heap_setCell _ ⟨gp, 0, none⟩ _ b (fun e => hb.1 e))
                have hs : x6275.heap.size ≤ W9.heap.size := by rw [hW9]; simp [World.setCell]
                have hb : Below u3.heap.size u3 W9 := by
                  rw [hW9]
                  exact (((HBV.out.setCell (p := ⟨gp, 0, none⟩) hvp _).setCell (p := ⟨gp, 1, none⟩) hvp _).setCell (p := ⟨gq, 0, none⟩) hvq _).setCell (p := ⟨gq, 1, none⟩) hvq _
                refine ⟨RdO.rd _ (RdO.keep hs hk _ HNp.out), RdO.rd _ (RdO.keep hs hk _ HNq.out), ?_⟩
                refine ((((Kept.nil_of hb).cons_of ?_).cons_of ?_).cons_of ?_).cons_of ?_ <;> (rw [hW9]; go_simp)
              clear zp0 mp0 zp1 mp1 zq0 mq0 zq1 mq1
              go_wp2_with fail
              go_meet
              exact ⟨gp, gq, ⟨Aex, nex, cex⟩, ⟨Akx, nkx, ckx⟩, ⟨Aey, ney, cey⟩, ⟨Aky, nky, cky⟩, rfl, rfl, HMID.out⟩
          · go_simp
            refine hK.out _ _ ?_ (fun hHeld2 => ?_)
            · exact ⟨(HKc.out.alloc _).c0, (HKc.out.alloc _).c1⟩
            clear hK K hHeld
            have hHeld := hHeld2
            clear hHeld2
            obtain ⟨gq, hgq⟩ : ∃ g, g = x6.heap.size := ⟨_, rfl⟩
            obtain ⟨x67, hx67⟩ : ∃ W, W = x6.alloc (.cells #[.slice none 0 0, .slice none 0 0] 25) := ⟨_, rfl⟩
            have HBX : Hid (u3.heap.size ≤ x6.heap.size) := HBV.out.size
            have hb9 : Below x6.heap.size x6 x67 := by rw [hx67]; exact Dt.box_below _ _ _
            have e0 : x67.cell? ⟨gq, 0, none⟩ = some (.slice none 0 0) := by rw [hx67, hgq]; go_simp
            have e1 : x67.cell? ⟨gq, 1, none⟩ = some (.slice none 0 0) := by rw [hx67, hgq]; go_simp
            have HKc := Lib.hid (HKc.out.later hb9)
            have HBV := Lib.hid (HBV.out.trans (hb9.mono HBV.out.size))
            have HZp := Lib.hid (HZp.out.later hb9)
            have HFp := Lib.hid (HFp.out.later hb9)
            have hltp : gp < x67.heap.size := HFp.out.1
            have HZq : Hid (Kept [(⟨gq, 0, none⟩, .slice none 0 0), (⟨gq, 1, none⟩, .slice none 0 0)] u3 x67) := ((Kept.nil_of HBV.out).cons_of e1).cons_of e0
            have HFq : Hid (Free gq x67) := ⟨by rw [hx67, hgq]; simp, fun j => by rw [hx67, hgq]; go_simp⟩
            have hltq : gq < x67.heap.size := HFq.out.1
            have hvq : u3.heap.size ≤ gq := by rw [hgq]; exact HBX.out
            have hne1 : ¬ gp = gq := by omega
            have hne2 : ¬ gq = gp := by omega
            (try rw [← hx67] at hHeld)
            rw [← hgq, ← hx67]
            clear hgq hx67 hb9 e0 e1
            try simp only [Act.put, List.setIfInBounds_toArray, List.set_cons_zero, List.set_cons_succ]
            refine wpAnyH_ready (rs := [2]) (by kernel_rfl) (by simp) ?_
            refine AllReadyH.cons (o := ⟨some 24, _, _, _, _, _⟩) rfl (fun K hK => ?_) AllReadyH.nil
            go_simp
            (go_at_call 7; refine (only_any t Aet Akt net nkt cet ckt x67 l Al nl cl HNl.out (by omega) (Rl.out.later HBV.out) HLt.out (by have := HN60.out; omega) (RdT.later Rt.out HBV.out)).mono ?_)
            rw [HXX.out]
            rintro e x672 ⟨Aex, nex, cex, Akx, nkx, ckx, rfl, hro, hb9⟩
            have HNp : Hid (RdO x672 (fun b => b ≠ gp ∧ b ≠ gq) x ⟨Aex, nex, cex⟩ ⟨Akx, nkx, ckx⟩) := RdO.mono (fun b hb _ => ⟨by omega, by omega⟩) _ hro
            clear hro
            have HKc := Lib.hid (HKc.out.later hb9)
            have HBV := Lib.hid (HBV.out.trans (hb9.mono HBV.out.size))
            have HZp := Lib.hid (HZp.out.later hb9)
            have HFp := Lib.hid (HFp.out.later hb9)
            have hltp : gp < x672.heap.size := HFp.out.1
            have HZq := Lib.hid (HZq.out.later hb9)
            have HFq := Lib.hid (HFq.out.later hb9)
            have hltq : gq < x672.heap.size := HFq.out.1
            clear hb9
            refine hK.out _ _ ?_ (fun hHeld2 => ?_)
            · exact ⟨HKc.out.c0, HKc.out.c1⟩
            clear hK K hHeld
            have hHeld := hHeld2
            clear hHeld2
            try simp only [Act.put, List.setIfInBounds_toArray, List.set_cons_zero, List.set_cons_succ]
            refine wpAnyH_ready (rs := [5]) (by kernel_rfl) (by simp) ?_
            refine AllReadyH.cons (o := ⟨some 27, _, _, _, _, _⟩) rfl (fun K hK => ?_) AllReadyH.nil
            go_simp
            (go_at_call 8; refine (without_any t Aet Akt net nkt cet ckt x672 l Al nl cl HNl.out (by omega) (Rl.out.later HBV.out) HLt.out (by have := HN60.out; omega) (RdT.later Rt.out HBV.out)).mono ?_)
            rw [HYY.out]
            rintro e x6725 ⟨Aey, ney, cey, Aky, nky, cky, rfl, hro, hb9⟩
            have HNq : Hid (RdO x6725 (fun b => b ≠ gp ∧ b ≠ gq) y ⟨Aey, ney, cey⟩ ⟨Aky, nky, cky⟩) := RdO.mono (fun b hb _ => ⟨by omega, by omega⟩) _ hro
            clear hro
            have HKc := Lib.hid (HKc.out.later hb9)
            have HBV := Lib.hid (HBV.out.trans (hb9.mono HBV.out.size))
            have HNp := Lib.hid (RdO.later HNp.out hb9)
            have HZp := Lib.hid (HZp.out.later hb9)
            have HFp := Lib.hid (HFp.out.later hb9)
            have hltp : gp < x6725.heap.size := HFp.out.1
            have HZq := Lib.hid (HZq.out.later hb9)
            have HFq := Lib.hid (HFq.out.later hb9)
            have hltq : gq < x6725.heap.size := HFq.out.1
            clear hb9
            have zp0 := HZp.out.c0
            have mp0 := HFp.out.2 0
            have zp1 := HZp.out.c1
            have mp1 := HFp.out.2 1
            have zq0 := HZq.out.c0
            have mq0 := HFq.out.2 0
            have zq1 := HZq.out.c1
            have mq1 := HFq.out.2 1
            refine hK.out _ _ ?_ (fun hHeld2 => ?_)
            · exact ⟨HKc.out.c0, HKc.out.c1⟩
            clear hK K hHeld
            have hHeld := hHeld2
            clear hHeld2
            try simp only [Act.put, List.setIfInBounds_toArray, List.set_cons_zero, List.set_cons_succ]
            refine wpAnyH_ready (rs := [8]) (by kernel_rfl) (by simp) ?_
            refine AllReadyH.cons (o := ⟨none, _, _, _, _, _⟩) rfl (fun K hK => ?_) AllReadyH.nil
            go_simp
            refine hK.out _ _ ?_ (fun hHeld2 => ?_)
            · (try dsimp only)
              have h9 := HKc.out
              have h9 := h9.set (a := ⟨gp, 0, none⟩) (Nat.le_trans hwv hvp) (fun x hx => by simp at hx; rcases hx with rfl | rfl <;> (dsimp only; omega)) (.slice Aex nex cex)
              have h9 := h9.set (a := ⟨gp, 1, none⟩) (Nat.le_trans hwv hvp) (fun x hx => by simp at hx; rcases hx with rfl | rfl <;> (dsimp only; omega)) (.slice Akx nkx ckx)
              exact ⟨h9.c0, h9.c1⟩
            clear hK K hHeld
            have hHeld := hHeld2
            clear hHeld2
            try simp only [Act.put, List.setIfInBounds_toArray, List.set_cons_zero, List.set_cons_succ]
            refine wpAnyH_ready (rs := [9]) (by kernel_rfl) (by simp) ?_
            refine AllReadyH.cons (o := ⟨none, _, _, _, _, _⟩) rfl (fun K hK => ?_) AllReadyH.nil
            go_simp
            refine hK.out _ _ ?_ (fun hHeld2 => ?_)
            · (try dsimp only)
              have h9 := HKc.out
              have h9 := h9.set (a := ⟨gp, 0, none⟩) (Nat.le_trans hwv hvp) (fun x hx => by simp at hx; rcases hx with rfl | rfl <;> (dsimp only; omega)) (.slice Aex nex cex)
              have h9 := h9.set (a := ⟨gp, 1, none⟩) (Nat.le_trans hwv hvp) (fun x hx => by simp at hx; rcases hx with rfl | rfl <;> (dsimp only; omega)) (.slice Akx nkx ckx)
              have h9 := h9.set (a := ⟨gq, 0, none⟩) (Nat.le_trans hwv hvq) (fun x hx => by simp at hx; rcases hx with rfl | rfl <;> (dsimp only; omega)) (.slice Aey ney cey)
              have h9 := h9.set (a := ⟨gq, 1, none⟩) (Nat.le_trans hwv hvq) (fun x hx => by simp at hx; rcases hx with rfl | rfl <;> (dsimp only; omega)) (.slice Aky nky cky)
              exact ⟨h9.c0, h9.c1⟩
            clear hK K hHeld
            have hHeld := hHeld2
            clear hHeld2
            try simp only [Act.put, List.setIfInBounds_toArray, List.set_cons_zero, List.set_cons_succ]
            refine wpAnyH_done (by kernel_rfl) ?_ _
            clear hHeld
            have HMID : Hid (MidT u3 gp gq x y ⟨Aex, nex, cex⟩ ⟨Akx, nkx, ckx⟩ ⟨Aey, ney, cey⟩ ⟨Aky, nky, cky⟩ ((((x6725.setCell ⟨gp, 0, none⟩ (.slice Aex nex cex)).setCell ⟨gp, 1, none⟩ (.slice Akx nkx ckx)).setCell ⟨gq, 0, none⟩ (.slice Aey ney cey)).setCell ⟨gq, 1, none⟩ (.slice Aky nky cky))) := by
              obtain ⟨W9, hW9⟩ : ∃ W, W = ((((x6725.setCell ⟨gp, 0, none⟩ (.slice Aex nex cex)).setCell ⟨gp, 1, none⟩ (.slice Akx nkx ckx)).setCell ⟨gq, 0, none⟩ (.slice Aey ney cey)).setCell ⟨gq, 1, none⟩ (.slice Aky nky cky)) := ⟨_, rfl⟩
              rw [← hW9]
              have hk : ∀ b, (b ≠ gp ∧ b ≠ gq) → b < x6725.heap.size → W9.heap[b]? = x6725.heap[b]? := fun b hb _ => by
                rw [hW9]
                exact (((Below.heap_setCell _ ⟨gq, 1, none⟩ _ b (fun e => hb.2 e)).trans (Below.heap_setCell _ ⟨gq, 0, none⟩ _ b (fun e => hb.2 e))).trans (Below.heap_setCell _ ⟨gp, 1, none⟩ _ b (fun e => hb.1 e))).trans (Below.heap_setCell _ ⟨gp, 0, none⟩ _ b (fun e => hb.1 e))
              have hs : x6725.heap.size ≤ W9.heap.size := by rw [hW9]; simp [World.setCell]
              have hb : Below u3.heap.size u3 W9 := by
                rw [hW9]
                exact (((HBV.out.setCell (p := ⟨gp, 0, none⟩) hvp _).setCell (p := ⟨gp, 1, none⟩) hvp _).setCell (p := ⟨gq, 0, none⟩) hvq _).setCell (p := ⟨gq, 1, none⟩) hvq _
              refine ⟨RdO.rd _ (RdO.keep hs hk _ HNp.out), RdO.rd _ (RdO.keep hs hk _ HNq.out), ?_⟩
              refine ((((Kept.nil_of hb).cons_of ?_).cons_of ?_).cons_of ?_).cons_of ?_ <;> (rw [hW9]; go_simp)
            clear zp0 mp0 zp1 mp1 zq0 mq0 zq1 mq1
            go_wp2_with fail
            go_meet
            exact ⟨gp, gq, ⟨Aex, nex, cex⟩, ⟨Akx, nkx, ckx⟩, ⟨Aey, ney, cey⟩, ⟨Aky, nky, cky⟩, rfl, rfl, HMID.out⟩
        · go_simp
          refine hK.out _ _ ?_ (fun hHeld2 => ?_)
          · exact ⟨(HKc.out.alloc _).c0, (HKc.out.alloc _).c1⟩
          clear hK K hHeld
          have hHeld := hHeld2
          clear hHeld2
          obtain ⟨gq, hgq⟩ : ∃ g, g = w1.heap.size := ⟨_, rfl⟩
          obtain ⟨x7, hx7⟩ : ∃ W, W = w1.alloc (.cells #[.slice none 0 0, .slice none 0 0] 25) := ⟨_, rfl⟩
          have HBX : Hid (u3.heap.size ≤ w1.heap.size) := HBV.out.size
          have hb9 : Below w1.heap.size w1 x7 := by rw [hx7]; exact Dt.box_below _ _ _
          have e0 : x7.cell? ⟨gq, 0, none⟩ = some (.slice none 0 0) := by rw [hx7, hgq]; go_simp
          have e1 : x7.cell? ⟨gq, 1, none⟩ = some (.slice none 0 0) := by rw [hx7, hgq]; go_simp
          have HKc := Lib.hid (HKc.out.later hb9)
          have HBV := Lib.hid (HBV.out.trans (hb9.mono HBV.out.size))
          have HZq : Hid (Kept [(⟨gq, 0, none⟩, .slice none 0 0), (⟨gq, 1, none⟩, .slice none 0 0)] u3 x7) := ((Kept.nil_of HBV.out).cons_of e1).cons_of e0
          have HFq : Hid (Free gq x7) := ⟨by rw [hx7, hgq]; simp, fun j => by rw [hx7, hgq]; go_simp⟩
          have hltq : gq < x7.heap.size := HFq.out.1
          have hvq : u3.heap.size ≤ gq := by rw [hgq]; exact HBX.out
          (try rw [← hx7] at hHeld)
          rw [← hgq, ← hx7]
          clear hgq hx7 hb9 e0 e1
          try simp only [Act.put, List.setIfInBounds_toArray, List.set_cons_zero, List.set_cons_succ]
          refine wpAnyH_ready (rs := [2, 6]) (by kernel_rfl) (by simp) ?_
          refine AllReadyH.cons (o := ⟨some 24, _, _, _, _, _⟩) rfl (fun K hK => ?_) (AllReadyH.cons (o := ⟨some 5, _, _, _, _, _⟩) rfl (fun K hK => ?_) (AllReadyH.nil))
          · go_simp
            (go_at_call 7; refine (only_any t Aet Akt net nkt cet ckt x7 l Al nl cl HNl.out (by omega) (Rl.out.later HBV.out) HLt.out (by have := HN60.out; omega) (RdT.later Rt.out HBV.out)).mono ?_)
            rw [HXX.out]
            rintro e x72 ⟨Aex, nex, cex, Akx, nkx, ckx, rfl, hro, hb9⟩
            have HNp : Hid (RdO x72 (fun b => b ≠ gq) x ⟨Aex, nex, cex⟩ ⟨Akx, nkx, ckx⟩) := RdO.mono (fun b hb _ => by omega) _ hro
            clear hro
            have HKc := Lib.hid (HKc.out.later hb9)
            have HBV := Lib.hid (HBV.out.trans (hb9.mono HBV.out.size))
            have HZq := Lib.hid (HZq.out.later hb9)
            have HFq := Lib.hid (HFq.out.later hb9)
            have hltq : gq < x72.heap.size := HFq.out.1
            clear hb9
            refine hK.out _ _ ?_ (fun hHeld2 => ?_)
            · exact ⟨HKc.out.c0, HKc.out.c1⟩
            clear hK K hHeld
            have hHeld := hHeld2
            clear hHeld2
            try simp only [Act.put, List.setIfInBounds_toArray, List.set_cons_zero, List.set_cons_succ]
            refine wpAnyH_ready (rs := [5, 6]) (by kernel_rfl) (by simp) ?_
            refine AllReadyH.cons (o := ⟨some 27, _, _, _, _, _⟩) rfl (fun K hK => ?_) (AllReadyH.cons (o := ⟨some 5, _, _, _, _, _⟩) rfl (fun K hK => ?_) (AllReadyH.nil))
            · go_simp
              (go_at_call 8; refine (without_any t Aet Akt net nkt cet ckt x72 l Al nl cl HNl.out (by omega) (Rl.out.later HBV.out) HLt.out (by have := HN60.out; omega) (RdT.later Rt.out HBV.out)).mono ?_)
              rw [HYY.out]
              rintro e x725 ⟨Aey, ney, cey, Aky, nky, cky, rfl, hro, hb9⟩
              have HNq : Hid (RdO x725 (fun b => b ≠ gq) y ⟨Aey, ney, cey⟩ ⟨Aky, nky, cky⟩) := RdO.mono (fun b hb _ => by omega) _ hro
              clear hro
              have HKc := Lib.hid (HKc.out.later hb9)
              have HBV := Lib.hid (HBV.out.trans (hb9.mono HBV.out.size))
              have HNp := Lib.hid (RdO.later HNp.out hb9)
              have HZq := Lib.hid (HZq.out.later hb9)
              have HFq := Lib.hid (HFq.out.later hb9)
              have hltq : gq < x725.heap.size := HFq.out.1
              clear hb9
              refine hK.out _ _ ?_ (fun hHeld2 => ?_)
              · exact ⟨HKc.out.c0, HKc.out.c1⟩
              clear hK K hHeld
              have hHeld := hHeld2
              clear hHeld2
              try simp only [Act.put, List.setIfInBounds_toArray, List.set_cons_zero, List.set_cons_succ]
              refine wpAnyH_ready (rs := [6]) (by kernel_rfl) (by simp) ?_
              refine AllReadyH.cons (o := ⟨some 5, _, _, _, _, _⟩) rfl (fun K hK => ?_) AllReadyH.nil
              go_simp
              refine hK.out _ _ ?_ (fun hHeld2 => ?_)
              · exact ⟨(HKc.out.alloc _).c0, (HKc.out.alloc _).c1⟩
              clear hK K hHeld
              have hHeld := hHeld2
              clear hHeld2
              obtain ⟨gp, hgp⟩ : ∃ g, g = x725.heap.size := ⟨_, rfl⟩
              obtain ⟨x7256, hx7256⟩ : ∃ W, W = x725.alloc (.cells #[.slice none 0 0, .slice none 0 0] 25) := ⟨_, rfl⟩
              have HBX : Hid (u3.heap.size ≤ x725.heap.size) := HBV.out.size
              have hb9 : Below x725.heap.size x725 x7256 := by rw [hx7256]; exact Dt.box_below _ _ _
              have e0 : x7256.cell? ⟨gp, 0, none⟩ = some (.slice none 0 0) := by rw [hx7256, hgp]; go_simp
              have e1 : x7256.cell? ⟨gp, 1, none⟩ = some (.slice none 0 0) := by rw [hx7256, hgp]; go_simp
              have HNp := Lib.hid (RdO.later (RdO.mono (ok' := fun b => b ≠ gp ∧ b ≠ gq) (fun b hb hlt => ⟨by omega, hb⟩) _ HNp.out) hb9)
              have HNq := Lib.hid (RdO.later (RdO.mono (ok' := fun b => b ≠ gp ∧ b ≠ gq) (fun b hb hlt => ⟨by omega, hb⟩) _ HNq.out) hb9)
              have HKc := Lib.hid (HKc.out.later hb9)
              have HBV := Lib.hid (HBV.out.trans (hb9.mono HBV.out.size))
              have HZq := Lib.hid (HZq.out.later hb9)
              have HFq := Lib.hid (HFq.out.later hb9)
              have hltq : gq < x7256.heap.size := HFq.out.1
              have HZp : Hid (Kept [(⟨gp, 0, none⟩, .slice none 0 0), (⟨gp, 1, none⟩, .slice none 0 0)] u3 x7256) := ((Kept.nil_of HBV.out).cons_of e1).cons_of e0
              have HFp : Hid (Free gp x7256) := ⟨by rw [hx7256, hgp]; simp, fun j => by rw [hx7256, hgp]; go_simp⟩
              have hltp : gp < x7256.heap.size := HFp.out.1
              have hvp : u3.heap.size ≤ gp := by rw [hgp]; exact HBX.out
              have hne1 : ¬ gp = gq := by omega
              have hne2 : ¬ gq = gp := by omega
              (try rw [← hx7256] at hHeld)
              rw [← hgp, ← hx7256]
              clear hgp hx7256 hb9 e0 e1
              have zp0 := HZp.out.c0
              have mp0 := HFp.out.2 0
              have zp1 := HZp.out.c1
              have mp1 := HFp.out.2 1
              have zq0 := HZq.out.c0
              have mq0 := HFq.out.2 0
              have zq1 := HZq.out.c1
              have mq1 := HFq.out.2 1
              try simp only [Act.put, List.setIfInBounds_toArray, List.set_cons_zero, List.set_cons_succ]
              refine wpAnyH_ready (rs := [8]) (by kernel_rfl) (by simp) ?_
              refine AllReadyH.cons (o := ⟨none, _, _, _, _, _⟩) rfl (fun K hK => ?_) AllReadyH.nil
              go_simp
              refine hK.out _ _ ?_ (fun hHeld2 => ?_)
              · (try dsimp only)
                have h9 := HKc.out
                have h9 := h9.set (a := ⟨gp, 0, none⟩) (Nat.le_trans hwv hvp) (fun x hx => by simp at hx; rcases hx with rfl | rfl <;> (dsimp only; omega)) (.slice Aex nex cex)
                have h9 := h9.set (a := ⟨gp, 1, none⟩) (Nat.le_trans hwv hvp) (fun x hx => by simp at hx; rcases hx with rfl | rfl <;> (dsimp only; omega)) (.slice Akx nkx ckx)
                exact ⟨h9.c0, h9.c1⟩
              clear hK K hHeld
              have hHeld := hHeld2
              clear hHeld2
              try simp only [Act.put, List.setIfInBounds_toArray, List.set_cons_zero, List.set_cons_succ]
              refine wpAnyH_ready (rs := [9]) (by kernel_rfl) (by simp) ?_
              refine AllReadyH.cons (o := ⟨none, _, _, _, _, _⟩) rfl (fun K hK => ?_) AllReadyH.nil
              go_simp
              refine hK.out _ _ ?_ (fun hHeld2 => ?_)
              · (try dsimp only)
                have h9 := HKc.out
                have h9 := h9.set (a := ⟨gp, 0, none⟩) (Nat.le_trans hwv hvp) (fun x hx => by simp at hx; rcases hx with rfl | rfl <;> (dsimp only; omega)) (.slice Aex nex cex)
                have h9 := h9.set (a := ⟨gp, 1, none⟩) (Nat.le_trans hwv hvp) (fun x hx => by simp at hx; rcases hx with rfl | rfl <;> (dsimp only; omega)) (.slice Akx nkx ckx)
                have h9 := h9.set (a := ⟨gq, 0, none⟩) (Nat.le_trans hwv hvq) (fun x hx => by simp at hx; rcases hx with rfl | rfl <;> (dsimp only; omega)) (.slice Aey ney cey)
                have h9 := h9.set (a := ⟨gq, 1, none⟩) (Nat.le_trans hwv hvq) (fun x hx => by simp at hx; rcases hx with rfl | rfl <;> (dsimp only; omega)) (.slice Aky nky cky)
                exact ⟨h9.c0, h9.c1⟩
              clear hK K hHeld
              have hHeld := hHeld2
              clear hHeld2
              try simp only [Act.put, List.setIfInBounds_toArray, List.set_cons_zero, List.set_cons_succ]
              refine wpAnyH_done (by kernel_rfl) ?_ _
              clear hHeld
              have HMID : Hid (MidT u3 gp gq x y ⟨Aex, nex, cex⟩ ⟨Akx, nkx, ckx⟩ ⟨Aey, ney, cey⟩ ⟨Aky, nky, cky⟩ ((((x7256.setCell ⟨gp, 0, none⟩ (.slice Aex nex cex)).setCell ⟨gp, 1, none⟩ (.slice Akx nkx ckx)).setCell ⟨gq, 0, none⟩ (.slice Aey ney cey)).setCell ⟨gq, 1, none⟩ (.slice Aky nky cky))) := by
                obtain ⟨W9, hW9⟩ : ∃ W, W = ((((x7256.setCell ⟨gp, 0, none⟩ (.slice Aex nex cex)).setCell ⟨gp, 1, none⟩ (.slice Akx nkx ckx)).setCell ⟨gq, 0, none⟩ (.slice Aey ney cey)).setCell ⟨gq, 1, none⟩ (.slice Aky nky cky)) := ⟨_, rfl⟩
                rw [← hW9]
                have hk : ∀ b, (b ≠ gp ∧ b ≠ gq) → b < x7256.heap.size → W9.heap[b]? = x7256.heap[b]? := fun b hb _ => by
                  rw [hW9]
                  exact (((Below.heap_setCell _ ⟨gq, 1, none⟩ _ b (fun e => hb.2 e)).trans (Below.heap_setCell _ ⟨gq, 0, none⟩ _ b (fun e => hb.2 e))).trans (Below.heap_setCell _ ⟨gp, 1, none⟩ _ b (fun e => hb.1 e))).trans (Below.heap_setCell _ ⟨gp, 0, none⟩ _ b (fun e => hb.1 e))
                have hs : x7256.heap.size ≤ W9.heap.size := by rw [hW9]; simp [World.setCell]
                have hb : Below u3.heap.size u3 W9 := by
                  rw [hW9]
                  exact (((HBV.out.setCell (p := ⟨gp, 0, none⟩) hvp _).setCell (p := ⟨gp, 1, none⟩) hvp _).setCell (p := ⟨gq, 0, none⟩) hvq _).setCell (p := ⟨gq, 1, none⟩) hvq _
                refine ⟨RdO.rd _ (RdO.keep hs hk _ HNp.out), RdO.rd _ (RdO.keep hs hk _ HNq.out), ?_⟩
                refine ((((Kept.nil_of hb).cons_of ?_).cons_of ?_).cons_of ?_).cons_of ?_ <;> (rw [hW9]; go_simp)
              clear zp0 mp0 zp1 mp1 zq0 mq0 zq1 mq1
              go_wp2_with fail
              go_meet
              exact ⟨gp, gq, ⟨Aex, nex, cex⟩, ⟨Akx, nkx, ckx⟩, ⟨Aey, ney, cey⟩, ⟨Aky, nky, cky⟩, rfl, rfl, HMID.out⟩
            · go_simp
              refine hK.out _ _ ?_ (fun hHeld2 => ?_)
              · exact ⟨(HKc.out.alloc _).c0, (HKc.out.alloc _).c1⟩
              clear hK K hHeld
              have hHeld := hHeld2
              clear hHeld2
              obtain ⟨gp, hgp⟩ : ∃ g, g = x72.heap.size := ⟨_, rfl⟩
              obtain ⟨x726, hx726⟩ : ∃ W, W = x72.alloc (.cells #[.slice none 0 0, .slice none 0 0] 25) := ⟨_, rfl⟩
              have HBX : Hid (u3.heap.size ≤ x72.heap.size) := HBV.out.size
              have hb9 : Below x72.heap.size x72 x726 := by rw [hx726]; exact Dt.box_below _ _ _
              have e0 : x726.cell? ⟨gp, 0, none⟩ = some (.slice none 0 0) := by rw [hx726, hgp]; go_simp
              have e1 : x726.cell? ⟨gp, 1, none⟩ = some (.slice none 0 0) := by rw [hx726, hgp]; go_simp
              have HNp := Lib.hid (RdO.later (RdO.mono (ok' := fun b => b ≠ gp ∧ b ≠ gq) (fun b hb hlt => ⟨by omega, hb⟩) _ HNp.out) hb9)
              have HKc := Lib.hid (HKc.out.later hb9)
              have HBV := Lib.hid (HBV.out.trans (hb9.mono HBV.out.size))
              have HZq := Lib.hid (HZq.out.later hb9)
              have HFq := Lib.hid (HFq.out.later hb9)
              have hltq : gq < x726.heap.size := HFq.out.1
              have HZp : Hid (Kept [(⟨gp, 0, none⟩, .slice none 0 0), (⟨gp, 1, none⟩, .slice none 0 0)] u3 x726) := ((Kept.nil_of HBV.out).cons_of e1).cons_of e0
              have HFp : Hid (Free gp x726) := ⟨by rw [hx726, hgp]; simp, fun j => by rw [hx726, hgp]; go_simp⟩
              have hltp : gp < x726.heap.size := HFp.out.1
              have hvp : u3.heap.size ≤ gp := by rw [hgp]; exact HBX.out
              have hne1 : ¬ gp = gq := by omega
              have hne2 : ¬ gq = gp := by omega
              (try rw [← hx726] at hHeld)
              rw [← hgp, ← hx726]
              clear hgp hx726 hb9 e0 e1
              try simp only [Act.put, List.setIfInBounds_toArray, List.set_cons_zero, List.set_cons_succ]
              refine wpAnyH_ready (rs := [5]) (by kernel_rfl) (by simp) ?_
              refine AllReadyH.cons (o := ⟨some 27, _, _, _, _, _⟩) rfl (fun K hK => ?_) AllReadyH.nil
              go_simp
              (go_at_call 8; refine (without_any t Aet Akt net nkt cet ckt x726 l Al nl cl HNl.out (by omega) (Rl.out.later HBV.out) HLt.out (by have := HN60.out; omega) (RdT.later Rt.out HBV.out)).mono ?_)
              rw [HYY.out]
              rintro e x7265 ⟨Aey, ney, cey, Aky, nky, cky, rfl, hro, hb9⟩
              have HNq : Hid (RdO x7265 (fun b => b ≠ gp ∧ b ≠ gq) y ⟨Aey, ney, cey⟩ ⟨Aky, nky, cky⟩) := RdO.mono (fun b hb _ => ⟨by omega, by omega⟩) _ hro
              clear hro
              have HKc := Lib.hid (HKc.out.later hb9)
              have HBV := Lib.hid (HBV.out.trans (hb9.mono HBV.out.size))
              have HNp := Lib.hid (RdO.later HNp.out hb9)
              have HZp := Lib.hid (HZp.out.later hb9)
              have HFp := Lib.hid (HFp.out.later hb9)
              have hltp : gp < x7265.heap.size := HFp.out.1
              have HZq := Lib.hid (HZq.out.later hb9)
              have HFq := Lib.hid (HFq.out.later hb9)
              have hltq : gq < x7265.heap.size := HFq.out.1
              clear hb9
              have zp0 := HZp.out.c0
              have mp0 := HFp.out.2 0
              have zp1 := HZp.out.c1
              have mp1 := HFp.out.2 1
              have zq0 := HZq.out.c0
              have mq0 := HFq.out.2 0
              have zq1 := HZq.out.c1
              have mq1 := HFq.out.2 1
              refine hK.out _ _ ?_ (fun hHeld2 => ?_)
              · exact ⟨HKc.out.c0, HKc.out.c1⟩
              clear hK K hHeld
              have hHeld := hHeld2
              clear hHeld2
              try simp only [Act.put, List.setIfInBounds_toArray, List.set_cons_zero, List.set_cons_succ]
              refine wpAnyH_ready (rs := [8]) (by kernel_rfl) (by simp) ?_
              refine AllReadyH.cons (o := ⟨none, _, _, _, _, _⟩) rfl (fun K hK => ?_) AllReadyH.nil
              go_simp
              refine hK.out _ _ ?_ (fun hHeld2 => ?_)
              · (try dsimp only)
                have h9 := HKc.out
                have h9 := h9.set (a := ⟨gp, 0, none⟩) (Nat.le_trans hwv hvp) (fun x hx => by simp at hx; rcases hx with rfl | rfl <;> (dsimp only; omega)) (.slice Aex nex cex)
                have h9 := h9.set (a := ⟨gp, 1, none⟩) (Nat.le_trans hwv hvp) (fun x hx => by simp at hx; rcases hx with rfl | rfl <;> (dsimp only; omega)) (.slice Akx nkx ckx)
                exact ⟨h9.c0, h9.c1⟩
              clear hK K hHeld
              have hHeld := hHeld2
              clear hHeld2
              try simp only [Act.put, List.setIfInBounds_toArray, List.set_cons_zero, List.set_cons_succ]
              refine wpAnyH_ready (rs := [9]) (by kernel_rfl) (by simp) ?_
              refine AllReadyH.cons (o := ⟨none, _, _, _, _, _⟩) rfl (fun K hK => ?_) AllReadyH.nil
              go_simp
              refine hK.out _ _ ?_ (fun hHeld2 => ?_)
              · (try dsimp only)
                have h9 := HKc.out
                have h9 := h9.set (a := ⟨gp, 0, none⟩) (Nat.le_trans hwv hvp) (fun x hx => by simp at hx; rcases hx with rfl | rfl <;> (dsimp only; omega)) (.slice Aex nex cex)
                have h9 := h9.set (a := ⟨gp, 1, none⟩) (Nat.le_trans hwv hvp) (fun x hx => by simp at hx; rcases hx with rfl | rfl <;> (dsimp only; omega)) (.slice Akx nkx ckx)
                have h9 := h9.set (a := ⟨gq, 0, none⟩) (Nat.le_trans hwv hvq) (fun x hx => by simp at hx; rcases hx with rfl | rfl <;> (dsimp only; omega)) (.slice Aey ney cey)
                have h9 := h9.set (a := ⟨gq, 1, none⟩) (Nat.le_trans hwv hvq) (fun x hx => by simp at hx; rcases hx with rfl | rfl <;> (dsimp only; omega)) (.slice Aky nky cky)
                exact ⟨h9.c0, h9.c1⟩
              clear hK K hHeld
              have hHeld := hHeld2
              clear hHeld2
              try simp only [Act.put, List.setIfInBounds_toArray, List.set_cons_zero, List.set_cons_succ]
              refine wpAnyH_done (by kernel_rfl) ?_ _
              clear hHeld
              have HMID : Hid (MidT u3 gp gq x y ⟨Aex, nex, cex⟩ ⟨Akx, nkx, ckx⟩ ⟨Aey, ney, cey⟩ ⟨Aky, nky, cky⟩ ((((x7265.setCell ⟨gp, 0, none⟩ (.slice Aex nex cex)).setCell ⟨gp, 1, none⟩ (.slice Akx nkx ckx)).setCell ⟨gq, 0, none⟩ (.slice Aey ney cey)).setCell ⟨gq, 1, none⟩ (.slice Aky nky cky))) := by
                obtain ⟨W9, hW9⟩ : ∃ W, W = ((((x7265.setCell ⟨gp, 0, none⟩ (.slice Aex nex cex)).setCell ⟨gp, 1, none⟩ (.slice Akx nkx ckx)).setCell ⟨gq, 0, none⟩ (.slice Aey ney cey)).setCell ⟨gq, 1, none⟩ (.slice Aky nky cky)) := ⟨_, rfl⟩
                rw [← hW9]
                have hk : ∀ b, (b ≠ gp ∧ b ≠ gq) → b < x7265.heap.size → W9.heap[b]? = x7265.heap[b]? := fun b hb _ => by
                  rw [hW9]
                  exact (((Below.heap_setCell _ ⟨gq, 1, none⟩ _ b (fun e => hb.2 e)).trans (Below.heap_setCell _ ⟨gq, 0, none⟩ _ b (fun e => hb.2 e))).trans (Below.heap_setCell _ ⟨gp, 1, none⟩ _ b (fun e => hb.1 e))).trans (Below.heap_setCell _ ⟨gp, 0, none⟩ _ b (fun e => hb.1 e))
                have hs : x7265.heap.size ≤ W9.heap.size := by rw [hW9]; simp [World.setCell]
                have hb : Below u3.heap.size u3 W9 := by
                  rw [hW9]
                  exact (((HBV.out.setCell (p := ⟨gp, 0, none⟩) hvp _).setCell (p := ⟨gp, 1, none⟩) hvp _).setCell (p := ⟨gq, 0, none⟩) hvq _).setCell (p := ⟨gq, 1, none⟩) hvq _
                refine ⟨RdO.rd _ (RdO.keep hs hk _ HNp.out), RdO.rd _ (RdO.keep hs hk _ HNq.out), ?_⟩
                refine ((((Kept.nil_of hb).cons_of ?_).cons_of ?_).cons_of ?_).cons_of ?_ <;> (rw [hW9]; go_simp)
              clear zp0 mp0 zp1 mp1 zq0 mq0 zq1 mq1
              go_wp2_with fail
              go_meet
              exact ⟨gp, gq, ⟨Aex, nex, cex⟩, ⟨Akx, nkx, ckx⟩, ⟨Aey, ney, cey⟩, ⟨Aky, nky, cky⟩, rfl, rfl, HMID.out⟩
          · go_simp
            refine hK.out _ _ ?_ (fun hHeld2 => ?_)
            · exact ⟨(HKc.out.alloc _).c0, (HKc.out.alloc _).c1⟩
            clear hK K hHeld
            have hHeld := hHeld2
            clear hHeld2
            obtain ⟨gp, hgp⟩ : ∃ g, g = x7.heap.size := ⟨_, rfl⟩
            obtain ⟨x76, hx76⟩ : ∃ W, W = x7.alloc (.cells #[.slice none 0 0, .slice none 0 0] 25) := ⟨_, rfl⟩
            have HBX : Hid (u3.heap.size ≤ x7.heap.size) := HBV.out.size
            have hb9 : Below x7.heap.size x7 x76 := by rw [hx76]; exact Dt.box_below _ _ _
            have e0 : x76.cell? ⟨gp, 0, none⟩ = some (.slice none 0 0) := by rw [hx76, hgp]; go_simp
            have e1 : x76.cell? ⟨gp, 1, none⟩ = some (.slice none 0 0) := by rw [hx76, hgp]; go_simp
            have HKc := Lib.hid (HKc.out.later hb9)
            have HBV := Lib.hid (HBV.out.trans (hb9.mono HBV.out.size))
            have HZq := Lib.hid (HZq.out.later hb9)
            have HFq := Lib.hid (HFq.out.later hb9)
            have hltq : gq < x76.heap.size := HFq.out.1
            have HZp : Hid (Kept [(⟨gp, 0, none⟩, .slice none 0 0), (⟨gp, 1, none⟩, .slice none 0 0)] u3 x76) := ((Kept.nil_of HBV.out).cons_of e1).cons_of e0
            have HFp : Hid (Free gp x76) := ⟨by rw [hx76, hgp]; simp, fun j => by rw [hx76, hgp]; go_simp⟩
            have hltp : gp < x76.heap.size := HFp.out.1
            have hvp : u3.heap.size ≤ gp := by rw [hgp]; exact HBX.out
            have hne1 : ¬ gp = gq := by omega
            have hne2 : ¬ gq = gp := by omega
            (try rw [← hx76] at hHeld)
            rw [← hgp, ← hx76]
            clear hgp hx76 hb9 e0 e1
            try simp only [Act.put, List.setIfInBounds_toArray, List.set_cons_zero, List.set_cons_succ]
            refine wpAnyH_ready (rs := [2]) (by kernel_rfl) (by simp) ?_
            refine AllReadyH.cons (o := ⟨some 24, _, _, _, _, _⟩) rfl (fun K hK => ?_) AllReadyH.nil
            go_simp
            (go_at_call 7; refine (only_any t Aet Akt net nkt cet ckt x76 l Al nl cl HNl.out (by omega) (Rl.out.later HBV.out) HLt.out (by have := HN60.out; omega) (RdT.later Rt.out HBV.out)).mono ?_)
            rw [HXX.out]
            rintro e x762 ⟨Aex, nex, cex, Akx, nkx, ckx, rfl, hro, hb9⟩
            have HNp : Hid (RdO x762 (fun b => b ≠ gp ∧ b ≠ gq) x ⟨Aex, nex, cex⟩ ⟨Akx, nkx, ckx⟩) := RdO.mono (fun b hb _ => ⟨by omega, by omega⟩) _ hro
            clear hro
            have HKc := Lib.hid (HKc.out.later hb9)
            have HBV := Lib.hid (HBV.out.trans (hb9.mono HBV.out.size))
            have HZp := Lib.hid (HZp.out.later hb9)
            have HFp := Lib.hid (HFp.out.later hb9)
            have hltp : gp < x762.heap.size := HFp.out.1
            have HZq := Lib.hid (HZq.out.later hb9)
            have HFq := Lib.hid (HFq.out.later hb9)
            have hltq : gq < x762.heap.size := HFq.out.1
            clear hb9
            refine hK.out _ _ ?_ (fun hHeld2 => ?_)
            · exact ⟨HKc.out.c0, HKc.out.c1⟩
            clear hK K hHeld
            have hHeld := hHeld2
            clear hHeld2
            try simp only [Act.put, List.setIfInBounds_toArray, List.set_cons_zero, List.set_cons_succ]
            refine wpAnyH_ready (rs := [5]) (by kernel_rfl) (by simp) ?_
            refine AllReadyH.cons (o := ⟨some 27, _, _, _, _, _⟩) rfl (fun K hK => ?_) AllReadyH.nil
            go_simp
            (go_at_call 8; refine (without_any t Aet Akt net nkt cet ckt x762 l Al nl cl HNl.out (by omega) (Rl.out.later HBV.out) HLt.out (by have := HN60.out; omega) (RdT.later Rt.out HBV.out)).mono ?_)
            rw [HYY.out]
            rintro e x7625 ⟨Aey, ney, cey, Aky, nky, cky, rfl, hro, hb9⟩
            have HNq : Hid (RdO x7625 (fun b => b ≠ gp ∧ b ≠ gq) y ⟨Aey, ney, cey⟩ ⟨Aky, nky, cky⟩) := RdO.mono (fun b hb _ => ⟨by omega, by omega⟩) _ hro
            clear hro
            have HKc := Lib.hid (HKc.out.later hb9)
            have HBV := Lib.hid (HBV.out.trans (hb9.mono HBV.out.size))
            have HNp := Lib.hid (RdO.later HNp.out hb9)
            have HZp := Lib.hid (HZp.out.later hb9)
            have HFp := Lib.hid (HFp.out.later hb9)
            have hltp : gp < x7625.heap.size := HFp.out.1
            have HZq := Lib.hid (HZq.out.later hb9)
            have HFq := Lib.hid (HFq.out.later hb9)
            have hltq : gq < x7625.heap.size := HFq.out.1
            clear hb9
            have zp0 := HZp.out.c0
            have mp0 := HFp.out.2 0
            have zp1 := HZp.out.c1
            have mp1 := HFp.out.2 1
            have zq0 := HZq.out.c0
            have mq0 := HFq.out.2 0
            have zq1 := HZq.out.c1
            have mq1 := HFq.out.2 1
            refine hK.out _ _ ?_ (fun hHeld2 => ?_)
            · exact ⟨HKc.out.c0, HKc.out.c1⟩
            clear hK K hHeld
            have hHeld := hHeld2
            clear hHeld2
            try simp only [Act.put, List.setIfInBounds_toArray, List.set_cons_zero, List.set_cons_succ]
            refine wpAnyH_ready (rs := [8]) (by kernel_rfl) (by simp) ?_
            refine AllReadyH.cons (o := ⟨none, _, _, _, _, _⟩) rfl (fun K hK => ?_) AllReadyH.nil
            go_simp
            refine hK.out _ _ ?_ (fun hHeld2 => ?_)
            · (try dsimp only)
              have h9 := HKc.out
              have h9 := h9.set (a := ⟨gp, 0, none⟩) (Nat.le_trans hwv hvp) (fun x hx => by simp at hx; rcases hx with rfl | rfl <;> (dsimp only; omega)) (.slice Aex nex cex)
              have h9 := h9.set (a := ⟨gp, 1, none⟩) (Nat.le_trans hwv hvp) (fun x hx => by simp at hx; rcases hx with rfl | rfl <;> (dsimp only; omega)) (.slice Akx nkx ckx)
              exact ⟨h9.c0, h9.c1⟩
            clear hK K hHeld
            have hHeld := hHeld2
            clear hHeld2
            try simp only [Act.put, List.setIfInBounds_toArray, List.set_cons_zero, List.set_cons_succ]
            refine wpAnyH_ready (rs := [9]) (by kernel_rfl) (by simp) ?_
            refine AllReadyH.cons (o := ⟨none, _, _, _, _, _⟩) rfl (fun K hK => ?_) AllReadyH.nil
            go_simp
            refine hK.out _ _ ?_ (fun hHeld2 => ?_)
            · (try dsimp only)
              have h9 := HKc.out
              have h9 := h9.set (a := ⟨gp, 0, none⟩) (Nat.le_trans hwv hvp) (fun x hx => by simp at hx; rcases hx with rfl | rfl <;> (dsimp only; omega)) (.slice Aex nex cex)
              have h9 := h9.set (a := ⟨gp, 1, none⟩) (Nat.le_trans hwv hvp) (fun x hx => by simp at hx; rcases hx with rfl | rfl <;> (dsimp only; omega)) (.slice Akx nkx ckx)
              have h9 := h9.set (a := ⟨gq, 0, none⟩) (Nat.le_trans hwv hvq) (fun x hx => by simp at hx; rcases hx with rfl | rfl <;> (dsimp only; omega)) (.slice Aey ney cey)
              have h9 := h9.set (a := ⟨gq, 1, none⟩) (Nat.le_trans hwv hvq) (fun x hx => by simp at hx; rcases hx with rfl | rfl <;> (dsimp only; omega)) (.slice Aky nky cky)
              exact ⟨h9.c0, h9.c1⟩
            clear hK K hHeld
            have hHeld := hHeld2
            clear hHeld2
            try simp only [Act.put, List.setIfInBounds_toArray, List.set_cons_zero, List.set_cons_succ]
            refine wpAnyH_done (by kernel_rfl) ?_ _
            clear hHeld
            have HMID : Hid (MidT u3 gp gq x y ⟨Aex, nex, cex⟩ ⟨Akx, nkx, ckx⟩ ⟨Aey, ney, cey⟩ ⟨Aky, nky, cky⟩ ((((x7625.setCell ⟨gp, 0, none⟩ (.slice Aex nex cex)).setCell ⟨gp, 1, none⟩ (.slice Akx nkx ckx)).setCell ⟨gq, 0, none⟩ (.slice Aey ney cey)).setCell ⟨gq, 1, none⟩ (.slice Aky nky cky))) := by
              obtain ⟨W9, hW9⟩ : ∃ W, W = ((((x7625.setCell ⟨gp, 0, none⟩ (.slice Aex nex cex)).setCell ⟨gp, 1, none⟩ (.slice Akx nkx ckx)).setCell ⟨gq, 0, none⟩ (.slice Aey ney cey)).setCell ⟨gq, 1, none⟩ (.slice Aky nky cky)) := ⟨_, rfl⟩
              rw [← hW9]
              have hk : ∀ b, (b ≠ gp ∧ b ≠ gq) → b < x7625.heap.size → W9.heap[b]? = x7625.heap[b]? := fun b hb _ => by
                rw [hW9]
                exact (((Below.heap_setCell _ ⟨gq, 1, none⟩ _ b (fun e => hb.2 e)).trans (Below.heap_setCell _ ⟨gq, 0, none⟩ _ b (fun e => hb.2 e))).trans (Below.heap_setCell _ ⟨gp, 1, none⟩ _ b (fun e => hb.1 e))).trans (Below.heap_setCell _ ⟨gp, 0, none⟩ _ b (fun e => hb.1 e))
              have hs : x7625.heap.size ≤ W9.heap.size := by rw [hW9]; simp [World.setCell]
              have hb : Below u3.heap.size u3 W9 := by
                rw [hW9]
                exact (((HBV.out.setCell (p := ⟨gp, 0, none⟩) hvp _).setCell (p := ⟨gp, 1, none⟩) hvp _).setCell (p := ⟨gq, 0, none⟩) hvq _).setCell (p := ⟨gq, 1, none⟩) hvq _
              refine ⟨RdO.rd _ (RdO.keep hs hk _ HNp.out), RdO.rd _ (RdO.keep hs hk _ HNq.out), ?_⟩
              refine ((((Kept.nil_of hb).cons_of ?_).cons_of ?_).cons_of ?_).cons_of ?_ <;> (rw [hW9]; go_simp)
            clear zp0 mp0 zp1 mp1 zq0 mq0 zq1 mq1
            go_wp2_with fail
            go_meet
            exact ⟨gp, gq, ⟨Aex, nex, cex⟩, ⟨Akx, nkx, ckx⟩, ⟨Aey, ney, cey⟩, ⟨Aky, nky, cky⟩, rfl, rfl, HMID.out⟩
      case rest =>
        obtain ⟨gp, gq, ⟨Aex, nex, cex⟩, ⟨Akx, nkx, ckx⟩, ⟨Aey, ney, cey⟩, ⟨Aky, nky, cky⟩, rfl, rfl, hmid⟩ := hcut
        obtain ⟨hrx, hry, hkp⟩ := hmid.out
        have hb := hkp.below
        have Rt := Lib.hid (RdT.later Rt.out hb)
        have Rl := Lib.hid (Rl.out.later hb)
        have HKc := Lib.hid (HKc.out.later hb)
        have Rx := Lib.hid hrx
        have Ry := Lib.hid hry
        have HKc := Lib.hid ((((HKc.out.cons_of hkp.c3).cons_of hkp.c2).cons_of hkp.c1).cons_of hkp.c0)
        clear hmid hrx hry hkp hb
        have s0 := HKc.out.c0
        have s1 := HKc.out.c1
        have s2 := HKc.out.c2
        have s3 := HKc.out.c3
        have s4 := HKc.out.c4
        have s5 := HKc.out.c5
        have HRF := Lib.hid (refrightT_any t Aet Akt net nkt cet ckt wc HLt.out Rt.out)
        rw [HZZ.out] at HRF
        go_wp2_with fail
        refine (HRF.out).mono ?_
        rintro e u4 ⟨rfl, hb⟩
        clear s0 s1 s2 s3 s4 s5
        have Rt := Lib.hid (RdT.later Rt.out hb)
        have Rl := Lib.hid (Rl.out.later hb)
        have Rx := Lib.hid (RdT.later Rx.out hb)
        have Ry := Lib.hid (RdT.later Ry.out hb)
        have HKc := Lib.hid (HKc.out.later hb)
        clear hb
        have s0 := HKc.out.c0
        have s1 := HKc.out.c1
        have s2 := HKc.out.c2
        have s3 := HKc.out.c3
        have s4 := HKc.out.c4
        have s5 := HKc.out.c5
        cases z with
        | false =>
          obtain rfl : x = none_ := by rw [← HXX.out, HZZ.out]; rfl
          obtain rfl : y = none_ := by rw [← HYY.out, HZZ.out]; rfl
          have HZ1 := Lib.hid (decide_eq_true (rd_none Rx.out))
          have HZ2 := Lib.hid (decide_eq_true (rd_none Ry.out))
          go_wp2_with fail
          refine (empty_any Aex Akx nex nkx cex ckx u4).mono ?_
          rw [HZ1.out]
          rintro e u5 ⟨rfl, hb⟩
          clear s0 s1 s2 s3 s4 s5
          have Rt := Lib.hid (RdT.later Rt.out hb)
          have Rl := Lib.hid (Rl.out.later hb)
          have Rx := Lib.hid (RdT.later Rx.out hb)
          have Ry := Lib.hid (RdT.later Ry.out hb)
          have HKc := Lib.hid (HKc.out.later hb)
          clear hb
          have s0 := HKc.out.c0
          have s1 := HKc.out.c1
          have s2 := HKc.out.c2
          have s3 := HKc.out.c3
          have s4 := HKc.out.c4
          have s5 := HKc.out.c5
          go_wp2_with fail
          refine (empty_any Aey Aky ney nky cey cky u5).mono ?_
          rw [HZ2.out]
          rintro e u6 ⟨rfl, hb⟩
          clear s0 s1 s2 s3 s4 s5
          have Rt := Lib.hid (RdT.later Rt.out hb)
          have Rl := Lib.hid (Rl.out.later hb)
          have Rx := Lib.hid (RdT.later Rx.out hb)
          have Ry := Lib.hid (RdT.later Ry.out hb)
          have HKc := Lib.hid (HKc.out.later hb)
          clear hb
          have s0 := HKc.out.c0
          have s1 := HKc.out.c1
          have s2 := HKc.out.c2
          have s3 := HKc.out.c3
          have s4 := HKc.out.c4
          have s5 := HKc.out.c5
          go_wp2_with fail
          go_ret
          exact ⟨rfl, HKc.out.below⟩
        | true =>
          obtain ⟨x', hx'⟩ : ∃ q, q = T.mk [] (keepK (fun k => inB l k == true) t.ks) := ⟨_, rfl⟩
          obtain ⟨y', hy'⟩ : ∃ q, q = T.mk t.es (keepK (fun k => inB l k == false) t.ks) := ⟨_, rfl⟩
          obtain rfl : x = x' := by rw [← HXX.out, HZZ.out, hx']; rfl
          obtain rfl : y = y' := by rw [← HYY.out, HZZ.out, hy']; rfl
          have hrt : RightT 5 t := rightB_iff.1 HZZ.out
          have hrx : rightB 5 x = true := rightB_iff.2 (by
            rw [hx']
            obtain ⟨es, ks⟩ := t
            have h := RightT.keep (d := 4) hrt (fun k => inB l k == true)
            exact ⟨by simp, by simp, h.2.2.1, h.2.2.2⟩)
          have hry : rightB 5 y = true := rightB_iff.2 (by
            rw [hy']
            obtain ⟨es, ks⟩ := t
            exact RightT.keep (d := 4) hrt (fun k => inB l k == false))
          have HNX : Hid (nodes x ≤ 60) := by unfold Hid; rw [hx']; exact Nat.le_trans (nodes_parts [] _ t (Nat.zero_le _)) HN60.out
          have HNY : Hid (nodes y ≤ 60) := by unfold Hid; rw [hy']; exact Nat.le_trans (nodes_parts t.es _ t (Nat.le_refl _)) HN60.out
          have hsum : (leaves x).length + (leaves y).length = (leaves t).length := by rw [hx', hy']; exact parts_len l t
          obtain ⟨mx, hmx⟩ : ∃ n, (leaves x).length = n := ⟨_, rfl⟩
          obtain ⟨my, hmy⟩ : ∃ n, (leaves y).length = n := ⟨_, rfl⟩
          obtain ⟨mt, hmt⟩ : ∃ n, (leaves t).length = n := ⟨_, rfl⟩
          have hmb : mt ≤ 60 := by rw [← hmt]; exact Nat.le_trans (leaves_nodes t) HN60.out
          rw [hmx, hmy, hmt] at hsum
          have fw : IntKind.i64.wrap ((mx : Int) + (my : Int)) = (mx : Int) + (my : Int) := by rw [IntKind.wrap_i64]; omega
          have fs : (((mx : Int) + (my : Int)) == (mt : Int)) = true := by rw [beq_iff_eq]; omega
          have HX5 := Lib.hid hx'
          have HY5 := Lib.hid hy'
          have HRX := Lib.hid hrx
          have HRY := Lib.hid hry
          have HMX := Lib.hid hmx
          have HMY := Lib.hid hmy
          have HMT := Lib.hid hmt
          clear hrt hrx hry hsum hmx hmy hmt hx' hy'

          have HRO := refonly_any t Aet Akt net nkt cet ckt l Al nl cl u4 HNl.out (by omega) Rl.out HZZ.out (by have := HN60.out; omega) Rt.out
          rw [← HX5.out, ← HY5.out] at HRO
          have HRO := Lib.hid HRO
          go_wp2_with fail
          refine (HRO.out).mono ?_
          rintro e u5 ⟨Aea, Aka, Aeb, Akb, nea, cea, nka, cka, neb, ceb, nkb, ckb, rfl, hr1, hr2, hb⟩
          have Ra := Lib.hid hr1.rd
          have Rb := Lib.hid hr2.rd
          clear hr1 hr2
          clear s0 s1 s2 s3 s4 s5
          have Rt := Lib.hid (RdT.later Rt.out hb)
          have Rl := Lib.hid (Rl.out.later hb)
          have Rx := Lib.hid (RdT.later Rx.out hb)
          have Ry := Lib.hid (RdT.later Ry.out hb)
          have HKc := Lib.hid (HKc.out.later hb)
          clear hb
          have s0 := HKc.out.c0
          have s1 := HKc.out.c1
          have s2 := HKc.out.c2
          have s3 := HKc.out.c3
          have s4 := HKc.out.c4
          have s5 := HKc.out.c5
          obtain ⟨ga, hga⟩ : ∃ z, z = u5.heap.size := ⟨_, rfl⟩
          obtain ⟨wa, hwa⟩ : ∃ W, W = u5.alloc (.cells #[.slice Aea nea cea, .slice Aka nka cka] 25) := ⟨_, rfl⟩
          have hb : Below u5.heap.size u5 wa := by rw [hwa]; exact Dt.box_below _ _ _
          have e0 : wa.cell? ⟨ga, 0, none⟩ = some (.slice Aea nea cea) := by rw [hwa, hga]; go_simp
          have e1 : wa.cell? ⟨ga, 1, none⟩ = some (.slice Aka nka cka) := by rw [hwa, hga]; go_simp
          clear s0 s1 s2 s3 s4 s5
          have Rt := Lib.hid (RdT.later Rt.out hb)
          have Rl := Lib.hid (Rl.out.later hb)
          have Rx := Lib.hid (RdT.later Rx.out hb)
          have Ry := Lib.hid (RdT.later Ry.out hb)
          have Ra := Lib.hid (RdT.later Ra.out hb)
          have Rb := Lib.hid (RdT.later Rb.out hb)
          have HKc := Lib.hid (HKc.out.later hb)
          have HKc := Lib.hid ((HKc.out.cons_of e1).cons_of e0)
          have Hwa := Lib.hid hwa
          have Hga := Lib.hid hga
          clear hb e0 e1 hwa hga
          obtain ⟨gb, hgb⟩ : ∃ z, z = wa.heap.size := ⟨_, rfl⟩
          obtain ⟨wb, hwb⟩ : ∃ W, W = wa.alloc (.cells #[.slice Aeb neb ceb, .slice Akb nkb ckb] 25) := ⟨_, rfl⟩
          have hb : Below wa.heap.size wa wb := by rw [hwb]; exact Dt.box_below _ _ _
          have e0 : wb.cell? ⟨gb, 0, none⟩ = some (.slice Aeb neb ceb) := by rw [hwb, hgb]; go_simp
          have e1 : wb.cell? ⟨gb, 1, none⟩ = some (.slice Akb nkb ckb) := by rw [hwb, hgb]; go_simp
          have Rt := Lib.hid (RdT.later Rt.out hb)
          have Rl := Lib.hid (Rl.out.later hb)
          have Rx := Lib.hid (RdT.later Rx.out hb)
          have Ry := Lib.hid (RdT.later Ry.out hb)
          have Ra := Lib.hid (RdT.later Ra.out hb)
          have Rb := Lib.hid (RdT.later Rb.out hb)
          have HKc := Lib.hid (HKc.out.later hb)
          have HKc := Lib.hid ((HKc.out.cons_of e1).cons_of e0)
          have Hwb := Lib.hid hwb
          have Hgb : Hid (gb = ga + 1) := by unfold Hid; rw [hgb, Hwa.out, Hga.out]; simp
          clear hb e0 e1 hwb hgb
          go_wp2_with fail
          rw [← Hga.out, ← Hwa.out, ← Hwb.out]
          (try rw [← Hgb.out])
          have Rt := Lib.hid (RdT.later Rt.out (Below.refl _ wb).drew)
          have Rx := Lib.hid (RdT.later Rx.out (Below.refl _ wb).drew)
          have Ry := Lib.hid (RdT.later Ry.out (Below.refl _ wb).drew)
          have Ra := Lib.hid (RdT.later Ra.out (Below.refl _ wb).drew)
          have Rb := Lib.hid (RdT.later Rb.out (Below.refl _ wb).drew)
          have HKc := Lib.hid HKc.out.drew
          refine wp_region_held_drew (S := fun W => W.cell? ⟨gb, 0, none⟩ = some (.slice Aeb neb ceb) ∧ W.cell? ⟨gb, 1, none⟩ = some (.slice Akb nkb ckb) ∧ W.cell? ⟨ga, 0, none⟩ = some (.slice Aea nea cea) ∧ W.cell? ⟨ga, 1, none⟩ = some (.slice Aka nka cka) ∧ W.cell? ⟨gp, 0, none⟩ = some (.slice Aex nex cex) ∧ W.cell? ⟨gp, 1, none⟩ = some (.slice Akx nkx ckx) ∧ W.cell? ⟨gq, 0, none⟩ = some (.slice Aey ney cey) ∧ W.cell? ⟨gq, 1, none⟩ = some (.slice Aky nky cky) ∧ W.cell? ⟨g0, 0, none⟩ = some (.slice Aet net cet) ∧ W.cell? ⟨g0, 1, none⟩ = some (.slice Akt nkt ckt)) (by kernel_rfl) (by exact ⟨HKc.out.c0, HKc.out.c1, HKc.out.c2, HKc.out.c3, HKc.out.c4, HKc.out.c5, HKc.out.c6, HKc.out.c7, HKc.out.tail.tail.tail.tail.tail.tail.tail.tail.c0, HKc.out.tail.tail.tail.tail.tail.tail.tail.tail.c1⟩) (fun hHeld => ?_)
          refine Tk 0 43 ?_
          refine Tk 1 44 ?_
          refine wpAnyH_ready (rs := [2]) (by kernel_rfl) (by simp) ?_
          refine AllReadyH.cons (o := ⟨some 45, _, _, _, _, _⟩) rfl (fun K hK => ?_) AllReadyH.nil
          go_simp
          (go_at_call 12; refine (refsameT_any x x Aex Akx nex nkx cex ckx Aea Aka nea nka cea cka _ (by have := HNX.out; omega) Rx.out Ra.out).mono ?_)
          rw [eqB_yes rfl]
          rintro e k1 ⟨rfl, hb⟩
          have Rt := Lib.hid (RdT.later Rt.out hb)
          have Rx := Lib.hid (RdT.later Rx.out hb)
          have Ry := Lib.hid (RdT.later Ry.out hb)
          have Ra := Lib.hid (RdT.later Ra.out hb)
          have Rb := Lib.hid (RdT.later Rb.out hb)
          have HKc := Lib.hid (HKc.out.later hb)
          clear hb
          refine hK.out _ _ ?_ (fun hHeld2 => ?_)
          · exact ⟨HKc.out.c0, HKc.out.c1, HKc.out.c2, HKc.out.c3, HKc.out.c4, HKc.out.c5, HKc.out.c6, HKc.out.c7, HKc.out.tail.tail.tail.tail.tail.tail.tail.tail.c0, HKc.out.tail.tail.tail.tail.tail.tail.tail.tail.c1⟩
          clear hK K hHeld
          have hHeld := hHeld2
          clear hHeld2
          try simp only [Act.put, List.setIfInBounds_toArray, List.set_cons_zero, List.set_cons_succ]
          refine Tk 3 46 ?_
          refine Tk 4 47 ?_
          refine Tk 5 48 ?_
          refine wpAnyH_ready (rs := [6]) (by kernel_rfl) (by simp) ?_
          refine AllReadyH.cons (o := ⟨some 49, _, _, _, _, _⟩) rfl (fun K hK => ?_) AllReadyH.nil
          go_simp
          (go_at_call 12; refine (refsameT_any y y Aey Aky ney nky cey cky Aeb Akb neb nkb ceb ckb _ (by have := HNY.out; omega) Ry.out Rb.out).mono ?_)
          rw [eqB_yes rfl]
          rintro e k2 ⟨rfl, hb⟩
          have Rt := Lib.hid (RdT.later Rt.out hb)
          have Rx := Lib.hid (RdT.later Rx.out hb)
          have Ry := Lib.hid (RdT.later Ry.out hb)
          have Ra := Lib.hid (RdT.later Ra.out hb)
          have Rb := Lib.hid (RdT.later Rb.out hb)
          have HKc := Lib.hid (HKc.out.later hb)
          clear hb
          refine hK.out _ _ ?_ (fun hHeld2 => ?_)
          · exact ⟨HKc.out.c0, HKc.out.c1, HKc.out.c2, HKc.out.c3, HKc.out.c4, HKc.out.c5, HKc.out.c6, HKc.out.c7, HKc.out.tail.tail.tail.tail.tail.tail.tail.tail.c0, HKc.out.tail.tail.tail.tail.tail.tail.tail.tail.c1⟩
          clear hK K hHeld
          have hHeld := hHeld2
          clear hHeld2
          try simp only [Act.put, List.setIfInBounds_toArray, List.set_cons_zero, List.set_cons_succ]
          refine Tk 7 50 ?_
          refine Tk 8 51 ?_
          refine Tk 9 52 ?_
          refine Tk 11 54 ?_
          refine Tk 14 57 ?_
          refine wpAnyH_ready (rs := [10]) (by kernel_rfl) (by simp) ?_
          refine AllReadyH.cons (o := ⟨some 53, _, _, _, _, _⟩) rfl (fun K hK => ?_) AllReadyH.nil
          go_simp
          (go_at_call 13; refine (sizeT_any x Aex Akx nex nkx cex ckx _ (LenT.few (by have := HNX.out; omega)) (by have := HNX.out; omega) Rx.out).mono ?_)
          rw [HRX.out, if_pos rfl, HMX.out]
          rintro e k3 ⟨rfl, hb⟩
          have Rt := Lib.hid (RdT.later Rt.out hb)
          have Rx := Lib.hid (RdT.later Rx.out hb)
          have Ry := Lib.hid (RdT.later Ry.out hb)
          have Ra := Lib.hid (RdT.later Ra.out hb)
          have Rb := Lib.hid (RdT.later Rb.out hb)
          have HKc := Lib.hid (HKc.out.later hb)
          clear hb
          refine hK.out _ _ ?_ (fun hHeld2 => ?_)
          · exact ⟨HKc.out.c0, HKc.out.c1, HKc.out.c2, HKc.out.c3, HKc.out.c4, HKc.out.c5, HKc.out.c6, HKc.out.c7, HKc.out.tail.tail.tail.tail.tail.tail.tail.tail.c0, HKc.out.tail.tail.tail.tail.tail.tail.tail.tail.c1⟩
          clear hK K hHeld
          have hHeld := hHeld2
          clear hHeld2
          try simp only [Act.put, List.setIfInBounds_toArray, List.set_cons_zero, List.set_cons_succ]
          refine wpAnyH_ready (rs := [12]) (by kernel_rfl) (by simp) ?_
          refine AllReadyH.cons (o := ⟨some 55, _, _, _, _, _⟩) rfl (fun K hK => ?_) AllReadyH.nil
          go_simp
          (go_at_call 13; refine (sizeT_any y Aey Aky ney nky cey cky _ (LenT.few (by have := HNY.out; omega)) (by have := HNY.out; omega) Ry.out).mono ?_)
          rw [HRY.out, if_pos rfl, HMY.out]
          rintro e k4 ⟨rfl, hb⟩
          have Rt := Lib.hid (RdT.later Rt.out hb)
          have Rx := Lib.hid (RdT.later Rx.out hb)
          have Ry := Lib.hid (RdT.later Ry.out hb)
          have Ra := Lib.hid (RdT.later Ra.out hb)
          have Rb := Lib.hid (RdT.later Rb.out hb)
          have HKc := Lib.hid (HKc.out.later hb)
          clear hb
          refine hK.out _ _ ?_ (fun hHeld2 => ?_)
          · exact ⟨HKc.out.c0, HKc.out.c1, HKc.out.c2, HKc.out.c3, HKc.out.c4, HKc.out.c5, HKc.out.c6, HKc.out.c7, HKc.out.tail.tail.tail.tail.tail.tail.tail.tail.c0, HKc.out.tail.tail.tail.tail.tail.tail.tail.tail.c1⟩
          clear hK K hHeld
          have hHeld := hHeld2
          clear hHeld2
          try simp only [Act.put, List.setIfInBounds_toArray, List.set_cons_zero, List.set_cons_succ]
          refine Tk 13 56 ?_
          refine wpAnyH_ready (rs := [15]) (by kernel_rfl) (by simp) ?_
          refine AllReadyH.cons (o := ⟨some 58, _, _, _, _, _⟩) rfl (fun K hK => ?_) AllReadyH.nil
          go_simp
          (go_at_call 13; refine (sizeT_any t Aet Akt net nkt cet ckt _ (LenT.few (by have := HN60.out; omega)) (by have := HN60.out; omega) Rt.out).mono ?_)
          rw [HZZ.out, if_pos rfl, HMT.out]
          rintro e k5 ⟨rfl, hb⟩
          have Rt := Lib.hid (RdT.later Rt.out hb)
          have Rx := Lib.hid (RdT.later Rx.out hb)
          have Ry := Lib.hid (RdT.later Ry.out hb)
          have Ra := Lib.hid (RdT.later Ra.out hb)
          have Rb := Lib.hid (RdT.later Rb.out hb)
          have HKc := Lib.hid (HKc.out.later hb)
          clear hb
          refine hK.out _ _ ?_ (fun hHeld2 => ?_)
          · exact ⟨HKc.out.c0, HKc.out.c1, HKc.out.c2, HKc.out.c3, HKc.out.c4, HKc.out.c5, HKc.out.c6, HKc.out.c7, HKc.out.tail.tail.tail.tail.tail.tail.tail.tail.c0, HKc.out.tail.tail.tail.tail.tail.tail.tail.tail.c1⟩
          clear hK K hHeld
          have hHeld := hHeld2
          clear hHeld2
          try simp only [Act.put, List.setIfInBounds_toArray, List.set_cons_zero, List.set_cons_succ]
          refine Tk 16 59 ?_
          refine Tk 17 60 ?_
          refine Tk 18 4 ?_
          refine wpAnyH_done (by kernel_rfl) ?_ _
          clear hHeld
          go_wp2_with fail
          go_ret
          exact ⟨by first | rfl | simp, HKc.out.below⟩
set_option maxRecDepth 100000 in
theorem lifted (os : Os) (started : os.Started) (H : Type) (enc : TypeId × Value → H) :
    ReturnsInHanded {} Try.checked os 3 .any (Rows.treePartsSpec.pre6 enc Try.prog Try.f3 Rows.treePartsRow.domain false) (Rows.treePartsSpec.post enc Try.prog Try.f3 false true false false) := by
  refine returnsInHanded_of_change_sized (C := Try.checked) own started (by kernel_rfl) Try.func3
    (ChangeSpec.witness6 (enc := enc) (C := Try.checked) false ⟨#[], #[.agg #[.slice none 0 0, .slice none 0 0], .slice none 0 0], []⟩ 8 (by kernel_rfl) (by kernel_rfl) (by kernel_rfl) (by kernel_rfl)) ?_
  intro W base args ds gs before hval0 hW _ hsz0 _
  have hval : ∀ (j : Nat) t v, Try.f3.params[j]? = some t → args[j]? = some v → Value.okWide Try.prog W .any base t v := hval0
  have hW' := hW
  obtain ⟨p, q, hA0, hV, rfl, hfz, hnd⟩ := hW
  have hA : DataW.TrodAll enc Try.prog W 0 (fun _ => true) true Try.f3.params.toList args.toList ds p := hA0
  rw [Try.params3] at hA hval
  obtain ⟨v0, v1, d0, d1, p0, p1, rfl, rfl, rfl, h0, h1⟩ := trodAll_two hA
  obtain ⟨rfl, rfl⟩ := trodVars_none hV
  have hsz : (DataW.weightsEach Try.prog (25 :: 26 :: _) (d0 :: d1 :: _)).all (· ≤ reachBytes) = true := hsz0
  obtain ⟨hw0, hsz⟩ := Tr.weights_head hsz
  obtain ⟨hw1, hsz⟩ := Tr.weights_head hsz
  obtain ⟨t0, ae0, ak0, ne0, nk0, ce0, ck0, rfl, hr0, hl0⟩ := Tr.treeV_of_trod (hval 0 25 v0 rfl rfl) h0 hw0
  obtain ⟨a1, len1, cap1, rfl⟩ := okWide_slice Try.underlying26 (hval 1 26 v1 rfl rfl)
  obtain ⟨fuel1, hf1⟩ := h1
  obtain ⟨l1, hll1, hr1, _⟩ := Tr.strs_of_trod hf1
  refine (walk_any t0 ae0 ak0 ne0 nk0 ce0 ck0 l1 len1 a1 cap1 W hr0 hl0 hll1 hr1).mono fun e W' ⟨he, hb⟩ => ?_
  subst he
  exact ⟨_, rfl, law_post hW' (by kernel_rfl) rfl rfl rfl hb⟩
theorem proved : Rows.TreePartsSaid :=
  OpenClaim.holds_of_wide 3 Try.f3 rfl rfl rfl rfl rfl rfl rfl ⟨rfl, rfl, rfl, rfl, rfl⟩ rfl rfl rfl rfl rfl (by kernel_rfl) Try.func3 (by kernel_rfl)
    (of_decide_eq_true (by kernel_rfl)) (by unfold Func.isWrapper; first | (rw [if_pos (by decide +kernel)]; kernel_rfl) | (rw [if_neg (by decide +kernel)]; exact ⟨rfl, rfl⟩))
    (fun os started H enc _ => lifted os started H enc)
#print axioms proved
end Go.Proofs.Ytcbclefemcmhpaa.lawTreeParts
