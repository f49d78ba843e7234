/- TreeBack answers true for every tree, all keys, every other key. No condition. -/
import Derived.Test.YtbfcbfadfnaebaaTreeLaw
namespace Go.Proofs.Ytbfcbfadfnaebaa.lawTreeBack
open Go.ChangeShapes Go.WideShapes Go.ChangeAt Go.RowKit Sp Rw Tr
set_option maxRecDepth 100000 in
set_option maxHeartbeats 4000000 in
theorem walk_any (t : T) (Aet Akt : Option Addr) (net nkt cet ckt : Nat) (l : List ByteArray) (nl : Nat) (Al : Option Addr) (cl : Nat) (o : ByteArray) (w : World) (hrt : RdT w w.heap.size t ⟨Aet, net, cet⟩ ⟨Akt, nkt, ckt⟩) (hlt : LenT reachBytes t) (hnl : l.length = nl) (hsl : Rd w w.heap.size 1 Al nl cl (Tr.strs l)) (_ : o.size ≤ maxLen) :
    Calls Try.prog 9 #[.agg #[.slice Aet net cet, .slice Akt nkt ckt], .slice Al nl cl, .string o] w fun e w' => e = .returned (.bool true) ∧ Below w.heap.size w w' := by
  have HKc : Hid (Kept [] w w) := Kept.nil w
  have Rt := Lib.hid hrt
  have HLt := Lib.hid hlt
  clear hrt hlt
  have Rl := Lib.hid hsl
  have HNl := Lib.hid hnl
  clear hsl hnl
  obtain ⟨g0, hg0⟩ : ∃ z, z = w.heap.size := ⟨_, rfl⟩
  obtain ⟨B0, hB0⟩ : ∃ W, W = w.alloc (.cells #[.slice Aet net cet, .slice Akt nkt ckt] 25) := ⟨_, rfl⟩
  have hb : Below w.heap.size w B0 := by rw [hB0]; exact Dt.box_below _ _ _
  have e0 : B0.cell? ⟨g0, 0, none⟩ = some (.slice Aet net cet) := by rw [hB0, hg0]; go_simp
  have e1 : B0.cell? ⟨g0, 1, none⟩ = some (.slice Akt nkt ckt) := by rw [hB0, hg0]; go_simp
  have Rt := Lib.hid (RdT.later Rt.out hb)
  have Rl := Lib.hid (Rl.out.later hb)
  have HKc := Lib.hid (((HKc.out.later hb).cons_of e1).cons_of e0)
  have HB0 := Lib.hid hB0
  have Hg0 := Lib.hid hg0
  clear hb e0 e1 hB0 hg0
  have s0 := HKc.out.c0
  have s1 := HKc.out.c1
  go_enter Try.func9, Try.ntmps9
  go_wp2_with fail
  rw [← Hg0.out, ← HB0.out]
  refine (awake_any B0).mono ?_
  rintro e u1 ⟨rfl, hb⟩
  clear s0 s1
  have Rt := Lib.hid (RdT.later Rt.out hb)
  have Rl := Lib.hid (Rl.out.later hb)
  have HKc := Lib.hid (HKc.out.later hb)
  clear hb
  have s0 := HKc.out.c0
  have s1 := HKc.out.c1
  go_wp2_with fail
  refine (small_to t Aet Akt net nkt cet ckt 60 60 rfl u1 (by omega) HLt.out Rt.out).mono ?_
  rintro e u2 ⟨sbt, rfl, hsmt, hb⟩
  clear s0 s1
  have Rt := Lib.hid (RdT.later Rt.out hb)
  have Rl := Lib.hid (Rl.out.later hb)
  have HKc := Lib.hid (HKc.out.later hb)
  clear hb
  have s0 := HKc.out.c0
  have s1 := HKc.out.c1
  cases sbt with
  | false =>
    go_wp2_with fail
    refine (awake_any _).mono ?_
    rintro e u3 ⟨rfl, hb⟩
    clear s0 s1
    have Rt := Lib.hid (RdT.later Rt.out hb)
    have Rl := Lib.hid (Rl.out.later hb)
    have HKc := Lib.hid (HKc.out.later hb)
    clear hb
    have s0 := HKc.out.c0
    have s1 := HKc.out.c1
    go_wp2_with fail
    go_ret
    exact ⟨rfl, HKc.out.below⟩
  | true =>
    have hn60 := hsmt rfl
    have HN60 := Lib.hid hn60
    clear hsmt
    obtain ⟨fw, hfw⟩ : ∃ z, decide (nl ≤ 20) = z := ⟨_, rfl⟩
    go_wp2_with fail
    refine (few_any l nl Al cl u2 fw hfw HNl.out).mono ?_
    rintro e u3 ⟨rfl, rfl⟩
    cases fw with
    | false =>
      clear hfw
      go_wp2_with fail
      refine (awake_any _).mono ?_
      rintro e u4 ⟨rfl, hb⟩
      clear s0 s1
      have Rt := Lib.hid (RdT.later Rt.out hb)
      have Rl := Lib.hid (Rl.out.later hb)
      have HKc := Lib.hid (HKc.out.later hb)
      clear hb
      have s0 := HKc.out.c0
      have s1 := HKc.out.c1
      go_wp2_with fail
      go_ret
      exact ⟨rfl, HKc.out.below⟩
    | true =>
      have hn20 : nl ≤ 20 := of_decide_eq_true hfw
      clear hfw
      obtain ⟨x, hx⟩ : ∃ x, wrapR t l = x := ⟨_, rfl⟩
      obtain ⟨er, her⟩ : ∃ x, wrapE t l = x := ⟨_, rfl⟩
      have hwc := wrap_any t Aet Akt net nkt cet ckt l Al nl cl u3 HNl.out (by omega) Rl.out HLt.out (by have := HN60.out; omega) Rt.out
      rw [hx, her] at hwc
      have HWC := Lib.hid hwc
      have HXX := Lib.hid hx
      have HER := Lib.hid her
      clear hwc hx her
      go_wp2_with fail
      refine (HWC.out).mono ?_
      rintro e u4 ⟨Aex, nex, cex, Akx, nkx, ckx, rfl, hro, hb⟩
      have Rx := Lib.hid hro.rd
      clear hro HWC
      clear s0 s1
      have Rt := Lib.hid (RdT.later Rt.out hb)
      have Rl := Lib.hid (Rl.out.later hb)
      have HKc := Lib.hid (HKc.out.later hb)
      clear hb
      have s0 := HKc.out.c0
      have s1 := HKc.out.c1
      obtain ⟨gx, hgx⟩ : ∃ z, z = u4.heap.size := ⟨_, rfl⟩
      obtain ⟨wx, hwx⟩ : ∃ W, W = u4.alloc (.cells #[.slice Aex nex cex, .slice Akx nkx ckx] 25) := ⟨_, rfl⟩
      have hb : Below u4.heap.size u4 wx := by rw [hwx]; exact Dt.box_below _ _ _
      have e0 : wx.cell? ⟨gx, 0, none⟩ = some (.slice Aex nex cex) := by rw [hwx, hgx]; go_simp
      have e1 : wx.cell? ⟨gx, 1, none⟩ = some (.slice Akx nkx ckx) := by rw [hwx, hgx]; go_simp
      have Rt := Lib.hid (RdT.later Rt.out hb)
      have Rl := Lib.hid (Rl.out.later hb)
      have Rx := Lib.hid (RdT.later Rx.out hb)
      have HKc := Lib.hid (HKc.out.later hb)
      have HKc := Lib.hid ((HKc.out.cons_of e1).cons_of e0)
      have HWX := Lib.hid hwx
      have HGX := Lib.hid hgx
      clear hb e0 e1
      by_cases h0 : er = 0
      · subst h0
        have f1 : ((0 : Int) != 0) = false := rfl
        have hok := wrap_ok HER.out
        rw [HXX.out] at hok
        have HOK := Lib.hid hok
        have hnx : nodes x ≤ 100000 := by have := hok.nodes; have := HNl.out; have := HN60.out; omega
        have HNX := Lib.hid hnx
        have HLX := Lib.hid (LenT.few hnx)
        clear hok hnx hwx hgx
        clear s0 s1
        have s0 := HKc.out.c0
        have s1 := HKc.out.c1
        have s2 := HKc.out.c2
        have s3 := HKc.out.c3
        go_wp2_with fail
        rw [← HGX.out, ← HWX.out]
        have Rt := Lib.hid (RdT.later Rt.out (Below.refl _ wx).drew)
        have Rx := Lib.hid (RdT.later Rx.out (Below.refl _ wx).drew)
        have Rl := Lib.hid (Rl.out.later (Below.refl _ wx).drew)
        have HKc := Lib.hid HKc.out.drew
        refine wp_region_held_drew (S := fun W => W.cell? ⟨gx, 0, none⟩ = some (.slice Aex nex cex) ∧ W.cell? ⟨gx, 1, none⟩ = some (.slice Akx nkx ckx) ∧ W.cell? ⟨g0, 0, none⟩ = some (.slice Aet net cet) ∧ W.cell? ⟨g0, 1, none⟩ = some (.slice Akt nkt ckt)) (by kernel_rfl) (by go_keep) (fun hHeld => ?_)
        refine wpAnyH_take (i := 0) (oi := ⟨some 32, _, _, _, _, _⟩) (v := ?_) rfl (by kernel_rfl) (by kernel_rfl) (by kernel_rfl) (fun _ _ _ h => h) (Or.inl ⟨by kernel_rfl, ?_⟩) (by assumption) ?_
        rotate_left
        (intro wz hSw; (try dsimp only at hSw); go_simp; try with_reducible rfl)
        try simp only [Act.put, List.setIfInBounds_toArray, List.set_cons_zero, List.set_cons_succ]
        refine wpAnyH_take (i := 1) (oi := ⟨some 33, _, _, _, _, _⟩) (v := ?_) rfl (by kernel_rfl) (by kernel_rfl) (by kernel_rfl) (fun _ _ _ h => h) (Or.inl ⟨by kernel_rfl, ?_⟩) (by assumption) ?_
        rotate_left
        (intro wz hSw; (try dsimp only at hSw); go_simp; try with_reducible rfl)
        try simp only [Act.put, List.setIfInBounds_toArray, List.set_cons_zero, List.set_cons_succ]
        refine wpAnyH_take (i := 3) (oi := ⟨some 35, _, _, _, _, _⟩) (v := ?_) rfl (by kernel_rfl) (by kernel_rfl) (by kernel_rfl) (fun _ _ _ h => h) (Or.inl ⟨by kernel_rfl, ?_⟩) (by assumption) ?_
        rotate_left
        (intro wz hSw; (try dsimp only at hSw); go_simp; try with_reducible rfl)
        try simp only [Act.put, List.setIfInBounds_toArray, List.set_cons_zero, List.set_cons_succ]
        refine wpAnyH_ready (rs := [2]) (by kernel_rfl) (by simp) ?_
        refine AllReadyH.cons (o := ⟨some 34, _, _, _, _, _⟩) rfl (fun K hK => ?_) AllReadyH.nil
        go_simp
        (go_at_call 22; refine (get_any x Aex Akx nex nkx cex ckx _ l Al nl cl HNl.out (by omega) Rl.out HLX.out HNX.out Rx.out).mono ?_)
        rw [HOK.out.rx, if_pos rfl, HOK.out.get]
        rintro e v1 ⟨Aey, ney, cey, Aky, nky, cky, rfl, hro, hb⟩
        have Ry := Lib.hid hro.rd
        have Rt := Lib.hid (RdT.later Rt.out hb)
        have Rx := Lib.hid (RdT.later Rx.out hb)
        have Rl := Lib.hid (Rl.out.later hb)
        have HKc := Lib.hid (HKc.out.later hb)
        clear hb
        clear hro
        refine hK.out _ _ ?_ (fun hHeld2 => ?_)
        · exact ⟨HKc.out.c0, HKc.out.c1, HKc.out.c2, HKc.out.c3⟩
        clear hK K hHeld
        have hHeld := hHeld2
        clear hHeld2
        try simp only [Act.put, List.setIfInBounds_toArray, List.set_cons_zero, List.set_cons_succ]
        refine wpAnyH_ready (rs := [4]) (by kernel_rfl) (by simp) ?_
        refine AllReadyH.cons (o := ⟨some 36, _, _, _, _, _⟩) rfl (fun K hK => ?_) AllReadyH.nil
        go_simp
        (go_at_call 31; refine (sameT_any t t Aey Aky ney nky cey cky Aet Akt net nkt cet ckt _ HLt.out (by have := HN60.out; omega) Ry.out Rt.out).mono ?_)
        rw [HOK.out.rt, eqB_yes rfl]
        rintro e v2 ⟨rfl, hb⟩
        have Rt := Lib.hid (RdT.later Rt.out hb)
        have Rx := Lib.hid (RdT.later Rx.out hb)
        have Rl := Lib.hid (Rl.out.later hb)
        have HKc := Lib.hid (HKc.out.later hb)
        clear hb
        refine hK.out _ _ ?_ (fun hHeld2 => ?_)
        · exact ⟨HKc.out.c0, HKc.out.c1, HKc.out.c2, HKc.out.c3⟩
        clear hK K hHeld
        have hHeld := hHeld2
        clear hHeld2
        try simp only [Act.put, List.setIfInBounds_toArray, List.set_cons_zero, List.set_cons_succ]
        refine wpAnyH_take (i := 5) (oi := ⟨some 37, _, _, _, _, _⟩) (v := ?_) rfl (by kernel_rfl) (by kernel_rfl) (by kernel_rfl) (fun _ _ _ h => h) (Or.inl ⟨by kernel_rfl, ?_⟩) (by assumption) ?_
        rotate_left
        (intro wz hSw; (try dsimp only at hSw); go_simp; try with_reducible rfl)
        try simp only [Act.put, List.setIfInBounds_toArray, List.set_cons_zero, List.set_cons_succ]
        refine wpAnyH_take (i := 6) (oi := ⟨some 38, _, _, _, _, _⟩) (v := ?_) rfl (by kernel_rfl) (by kernel_rfl) (by kernel_rfl) (fun _ _ _ h => h) (Or.inl ⟨by kernel_rfl, ?_⟩) (by assumption) ?_
        rotate_left
        (intro wz hSw; (try dsimp only at hSw); go_simp; try with_reducible rfl)
        try simp only [Act.put, List.setIfInBounds_toArray, List.set_cons_zero, List.set_cons_succ]
        refine wpAnyH_take (i := 7) (oi := ⟨some 39, _, _, _, _, _⟩) (v := ?_) rfl (by kernel_rfl) (by kernel_rfl) (by kernel_rfl) (fun _ _ _ h => h) (Or.inl ⟨by kernel_rfl, ?_⟩) (by assumption) ?_
        rotate_left
        (intro wz hSw; (try dsimp only at hSw); go_simp; try with_reducible rfl)
        try simp only [Act.put, List.setIfInBounds_toArray, List.set_cons_zero, List.set_cons_succ]
        refine wpAnyH_take (i := 9) (oi := ⟨some 41, _, _, _, _, _⟩) (v := ?_) rfl (by kernel_rfl) (by kernel_rfl) (by kernel_rfl) (fun _ _ _ h => h) (Or.inl ⟨by kernel_rfl, ?_⟩) (by assumption) ?_
        rotate_left
        (intro wz hSw; (try dsimp only at hSw); go_simp; try with_reducible rfl)
        try simp only [Act.put, List.setIfInBounds_toArray, List.set_cons_zero, List.set_cons_succ]
        refine wpAnyH_ready (rs := [8]) (by kernel_rfl) (by simp) ?_
        refine AllReadyH.cons (o := ⟨some 40, _, _, _, _, _⟩) rfl (fun K hK => ?_) AllReadyH.nil
        go_simp
        (go_at_call 16; refine (sizeT_any x Aex Akx nex nkx cex ckx _ HLX.out (by have := HNX.out; omega) Rx.out).mono ?_)
        rw [HOK.out.rx, if_pos rfl, HOK.out.len]
        rintro e v3 ⟨rfl, hb⟩
        have Rt := Lib.hid (RdT.later Rt.out hb)
        have Rx := Lib.hid (RdT.later Rx.out hb)
        have Rl := Lib.hid (Rl.out.later hb)
        have HKc := Lib.hid (HKc.out.later hb)
        clear hb
        refine hK.out _ _ ?_ (fun hHeld2 => ?_)
        · exact ⟨HKc.out.c0, HKc.out.c1, HKc.out.c2, HKc.out.c3⟩
        clear hK K hHeld
        have hHeld := hHeld2
        clear hHeld2
        try simp only [Act.put, List.setIfInBounds_toArray, List.set_cons_zero, List.set_cons_succ]
        refine wpAnyH_ready (rs := [10]) (by kernel_rfl) (by simp) ?_
        refine AllReadyH.cons (o := ⟨some 42, _, _, _, _, _⟩) rfl (fun K hK => ?_) AllReadyH.nil
        go_simp
        (go_at_call 16; refine (sizeT_any t Aet Akt net nkt cet ckt _ HLt.out (by have := HN60.out; omega) Rt.out).mono ?_)
        rw [HOK.out.rt, if_pos rfl]
        rintro e v4 ⟨rfl, hb⟩
        have Rt := Lib.hid (RdT.later Rt.out hb)
        have Rx := Lib.hid (RdT.later Rx.out hb)
        have Rl := Lib.hid (Rl.out.later hb)
        have HKc := Lib.hid (HKc.out.later hb)
        clear hb
        refine hK.out _ _ ?_ (fun hHeld2 => ?_)
        · exact ⟨HKc.out.c0, HKc.out.c1, HKc.out.c2, HKc.out.c3⟩
        clear hK K hHeld
        have hHeld := hHeld2
        clear hHeld2
        try simp only [Act.put, List.setIfInBounds_toArray, List.set_cons_zero, List.set_cons_succ]
        refine wpAnyH_take (i := 11) (oi := ⟨some 43, _, _, _, _, _⟩) (v := ?_) rfl (by kernel_rfl) (by kernel_rfl) (by kernel_rfl) (fun _ _ _ h => h) (Or.inl ⟨by kernel_rfl, ?_⟩) (by assumption) ?_
        rotate_left
        (intro wz hSw; (try dsimp only at hSw); go_simp; try with_reducible rfl)
        try simp only [Act.put, List.setIfInBounds_toArray, List.set_cons_zero, List.set_cons_succ]
        refine wpAnyH_take (i := 12) (oi := ⟨some 44, _, _, _, _, _⟩) (v := ?_) rfl (by kernel_rfl) (by kernel_rfl) (by kernel_rfl) (fun _ _ _ h => h) (Or.inl ⟨by kernel_rfl, ?_⟩) (by assumption) ?_
        rotate_left
        (intro wz hSw; (try dsimp only at hSw); go_simp; try with_reducible rfl)
        try simp only [Act.put, List.setIfInBounds_toArray, List.set_cons_zero, List.set_cons_succ]
        refine wpAnyH_take (i := 13) (oi := ⟨some 45, _, _, _, _, _⟩) (v := ?_) rfl (by kernel_rfl) (by kernel_rfl) (by kernel_rfl) (fun _ _ _ h => h) (Or.inl ⟨by kernel_rfl, ?_⟩) (by assumption) ?_
        rotate_left
        (intro wz hSw; (try dsimp only at hSw); go_simp; try with_reducible rfl)
        try simp only [Act.put, List.setIfInBounds_toArray, List.set_cons_zero, List.set_cons_succ]
        refine wpAnyH_take (i := 14) (oi := ⟨some 46, _, _, _, _, _⟩) (v := ?_) rfl (by kernel_rfl) (by kernel_rfl) (by kernel_rfl) (fun _ _ _ h => h) (Or.inl ⟨by kernel_rfl, ?_⟩) (by assumption) ?_
        rotate_left
        (intro wz hSw; (try dsimp only at hSw); go_simp; try with_reducible rfl)
        try simp only [Act.put, List.setIfInBounds_toArray, List.set_cons_zero, List.set_cons_succ]
        refine wpAnyH_ready (rs := [15]) (by kernel_rfl) (by simp) ?_
        refine AllReadyH.cons (o := ⟨some 47, _, _, _, _, _⟩) rfl (fun K hK => ?_) AllReadyH.nil
        go_simp
        (go_at_call 15; refine (rightT_any x Aex Akx nex nkx cex ckx _ HLX.out Rx.out).mono ?_)
        rw [HOK.out.rx]
        rintro e v5 ⟨rfl, hb⟩
        have Rt := Lib.hid (RdT.later Rt.out hb)
        have Rx := Lib.hid (RdT.later Rx.out hb)
        have Rl := Lib.hid (Rl.out.later hb)
        have HKc := Lib.hid (HKc.out.later hb)
        clear hb
        refine hK.out _ _ ?_ (fun hHeld2 => ?_)
        · exact ⟨HKc.out.c0, HKc.out.c1, HKc.out.c2, HKc.out.c3⟩
        clear hK K hHeld
        have hHeld := hHeld2
        clear hHeld2
        try simp only [Act.put, List.setIfInBounds_toArray, List.set_cons_zero, List.set_cons_succ]
        refine wpAnyH_take (i := 16) (oi := ⟨some 48, _, _, _, _, _⟩) (v := ?_) rfl (by kernel_rfl) (by kernel_rfl) (by kernel_rfl) (fun _ _ _ h => h) (Or.inl ⟨by kernel_rfl, ?_⟩) (by assumption) ?_
        rotate_left
        (intro wz hSw; (try dsimp only at hSw); go_simp; try with_reducible rfl)
        try simp only [Act.put, List.setIfInBounds_toArray, List.set_cons_zero, List.set_cons_succ]
        refine wpAnyH_take (i := 17) (oi := ⟨some 49, _, _, _, _, _⟩) (v := ?_) rfl (by kernel_rfl) (by kernel_rfl) (by kernel_rfl) (fun _ _ _ h => h) (Or.inl ⟨by kernel_rfl, ?_⟩) (by assumption) ?_
        rotate_left
        (intro wz hSw; (try dsimp only at hSw); go_simp; try with_reducible rfl)
        try simp only [Act.put, List.setIfInBounds_toArray, List.set_cons_zero, List.set_cons_succ]
        refine wpAnyH_done (by kernel_rfl) ?_ _
        clear s0 s1 s2 s3 hHeld
        have s0 := HKc.out.c0
        have s1 := HKc.out.c1
        have HB5 := Lib.hid HKc.out.below
        by_cases h0 : nl = 0
        · have f3 : ((nl : Int) == 0) = true := by simpa using h0
          go_wp2_with fail
          go_ret
          exact ⟨rfl, HB5.out⟩
        have f3 : ((nl : Int) == 0) = false := by simpa using h0
        obtain ⟨k, l', rfl⟩ : ∃ k l', l = k :: l' := by
          cases l with
          | nil => exact absurd HNl.out (by simp; omega)
          | cons k l' => exact ⟨k, l', rfl⟩
        obtain ⟨b, oo, rfl, hbb, hc⟩ := Rl.out.at_ (by omega)
        have c0 : v5.cell? ⟨b, oo, none⟩ = some (.string k) := by simpa [Tr.strs] using hc 0 (.string k) (by simp [Tr.strs])
        clear hc
        by_cases hok : o = k
        · subst hok
          go_wp2_with fail
          go_ret
          exact ⟨rfl, HB5.out⟩
        have f4 : (o.toList == k.toList) = false := bytes_ne hok
        have hot := HOK.out.other k o l' rfl hok
        have hal : Below v5.heap.size v5 (v5.alloc (.cells #[.string o] 9)) := Dt.box_below _ _ _
        have hrs : Rd (v5.alloc (.cells #[.string o] 9)) (v5.alloc (.cells #[.string o] 9)).heap.size 1 (some ⟨v5.heap.size, 0, none⟩) 1 1 (Tr.strs [o]) :=
          ⟨rfl, Nat.le_refl _, strs_one _, fun _ => ⟨_, _, rfl, by simp, fun j u hu => by
            rw [Nat.zero_add, cell_of_row _ _ j _ _ (0, 0) (heap_alloc_new _ _)]
            simpa [Tr.strs] using hu⟩⟩
        have hg := get_any x Aex Akx nex nkx cex ckx _ [o] _ 1 1 rfl (by omega) hrs HLX.out HNX.out (RdT.later Rx.out hal)
        have hgo : getT x [o] = none_ := hot
        rw [HOK.out.rx, if_pos rfl, hgo] at hg
        have HGO := Lib.hid hg
        have HB6 := Lib.hid (HB5.out.trans (hal.mono HB5.out.size))
        clear hal hrs hg hgo hot hok
        go_wp2_with fail
        refine HGO.out.mono ?_
        rintro e v6 ⟨Aey6, ney6, cey6, Aky6, nky6, cky6, rfl, hro, hb⟩
        have HZ6 := Lib.hid (rd_none hro.rd)
        have HB7 := Lib.hid (HB6.out.trans (hb.mono HB6.out.size))
        clear hro hb
        go_wp2_with fail
        refine (empty_any Aey6 Aky6 ney6 nky6 cey6 cky6 _).mono ?_
        rw [decide_eq_true HZ6.out]
        rintro e v7 ⟨rfl, hb⟩
        have HB8 := Lib.hid (HB7.out.trans (hb.mono HB7.out.size))
        clear hb
        go_wp2_with fail
        go_ret
        exact ⟨rfl, HB8.out⟩
      · have f1 : (er != 0) = true := by simpa using h0
        have hxn : x = none_ := by rw [← HXX.out]; exact wrap_not (by rw [HER.out]; exact h0)
        subst hxn
        have HZ6 := Lib.hid (rd_none Rx.out)
        clear hwx hgx h0
        go_wp2_with fail
        refine (empty_any Aex Akx nex nkx cex ckx _).mono ?_
        rw [decide_eq_true HZ6.out]
        rintro e u9 ⟨rfl, hb⟩
        rw [← HWX.out] at hb
        have HB9 := Lib.hid (HKc.out.below.trans (hb.mono HKc.out.below.size))
        clear hb
        go_wp2_with fail
        go_ret
        exact ⟨rfl, HB9.out⟩
set_option maxRecDepth 100000 in
theorem lifted (os : Os) (started : os.Started) (H : Type) (enc : TypeId × Value → H) :
    ReturnsInHanded {} Try.checked os 9 .any (Rows.treeBackSpec.pre6 enc Try.prog Try.f9 Rows.treeBackRow.domain false) (Rows.treeBackSpec.post enc Try.prog Try.f9 false true false false) := by
  refine returnsInHanded_of_change_sized (C := Try.checked) own started (by kernel_rfl) Try.func9
    (ChangeSpec.witness6 (enc := enc) (C := Try.checked) false ⟨#[], #[.agg #[.slice none 0 0, .slice none 0 0], .slice none 0 0, .string ByteArray.empty], []⟩ 8 (by kernel_rfl) (by kernel_rfl) (by kernel_rfl) (by kernel_rfl)) ?_
  intro W base args ds gs before hval0 hW _ hsz0 _
  have hval : ∀ (j : Nat) t v, Try.f9.params[j]? = some t → args[j]? = some v → Value.okWide Try.prog W .any base t v := hval0
  have hW' := hW
  obtain ⟨p, q, hA0, hV, rfl, hfz, hnd⟩ := hW
  have hA : DataW.TrodAll enc Try.prog W 0 (fun _ => true) true Try.f9.params.toList args.toList ds p := hA0
  rw [Try.params9] at hA hval
  obtain ⟨v0, v1, v2, d0, d1, d2, p0, p1, p2, rfl, rfl, rfl, h0, h1, h2⟩ := trodAll_three hA
  obtain ⟨rfl, rfl⟩ := trodVars_none hV
  have hsz : (DataW.weightsEach Try.prog (25 :: 39 :: 9 :: _) (d0 :: d1 :: d2 :: _)).all (· ≤ reachBytes) = true := hsz0
  obtain ⟨hw0, hsz⟩ := Tr.weights_head hsz
  obtain ⟨hw1, hsz⟩ := Tr.weights_head hsz
  obtain ⟨hw2, hsz⟩ := Tr.weights_head hsz
  obtain ⟨t0, ae0, ak0, ne0, nk0, ce0, ck0, rfl, hr0, hl0⟩ := Tr.treeV_of_trod (hval 0 25 v0 rfl rfl) h0 hw0
  obtain ⟨a1, len1, cap1, rfl⟩ := okWide_slice Try.underlying39 (hval 1 39 v1 rfl rfl)
  obtain ⟨fuel1, hf1⟩ := h1
  obtain ⟨l1, hll1, hr1, _⟩ := Tr.strs_of_trod hf1
  obtain ⟨s2, rfl, rfl, rfl, hs2⟩ := Go.ChangeMaps.open_string Try.underlying9 (hval 2 9 v2 rfl rfl) h2
  refine (walk_any t0 ae0 ak0 ne0 nk0 ce0 ck0 l1 len1 a1 cap1 s2 W hr0 hl0 hll1 hr1 hs2).mono fun e W' ⟨he, hb⟩ => ?_
  subst he
  exact ⟨_, rfl, law_post hW' (by kernel_rfl) rfl rfl rfl hb⟩
theorem proved : Rows.TreeBackSaid :=
  OpenClaim.holds_of_wide 9 Try.f9 rfl rfl rfl rfl rfl rfl rfl ⟨rfl, rfl, rfl, rfl, rfl⟩ rfl rfl rfl rfl rfl (by kernel_rfl) Try.func9 (by kernel_rfl)
    (of_decide_eq_true (by kernel_rfl)) (by unfold Func.isWrapper; first | (rw [if_pos (by decide +kernel)]; kernel_rfl) | (rw [if_neg (by decide +kernel)]; exact ⟨rfl, rfl⟩))
    (fun os started H enc _ => lifted os started H enc)
#print axioms proved
end Go.Proofs.Ytbfcbfadfnaebaa.lawTreeBack
