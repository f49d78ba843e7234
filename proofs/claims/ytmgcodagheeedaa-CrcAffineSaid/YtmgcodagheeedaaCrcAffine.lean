/- CrcAffine answers true for all three texts, and leaves them as they were. No condition. -/
import Derived.Test.YtmgcodagheeedaaCrcAwake
import Derived.StillTailTactics
import Derived.Deep.QuietTactic
import Derived.BigQuiet
import Derived.Deep.RegionLaw
namespace Go.Proofs.Ytmgcodagheeedaa.lawCrcAffine
open Go.ChangeShapes Go.WideShapes Go.ChangeAt Go.RowKit Crc
theorem xor8 (a b : UInt8) : bits .xor .u8 (a.toNat : Int) (b.toNat : Int) = (((a ^^^ b).toNat : Nat) : Int) := by
  rw [UInt8.toNat_xor]; exact u8_xor_nat _ _ a.toNat_lt b.toNat_lt
/-- the text when its first k bytes are turned -/
def part (a b c : List UInt8) (k : Nat) : List UInt8 := (zip (zip a b) c).take k ++ a.drop k
section
variable {a b c : List UInt8} {k : Nat}
theorem zz_len (hb : b.length = a.length) (hc : c.length = a.length) : (zip (zip a b) c).length = a.length := by unfold zip; simp; omega
theorem part_len (hb : b.length = a.length) (hc : c.length = a.length) (hk : k ≤ a.length) : (part a b c k).length = a.length := by
  unfold part; rw [List.length_append, List.length_take, zz_len hb hc, List.length_drop]; omega
theorem part_zero : part a b c 0 = a := by simp [part]
theorem part_all (hb : b.length = a.length) (hc : c.length = a.length) : part a b c a.length = zip (zip a b) c := by
  unfold part; rw [List.take_of_length_le (by rw [zz_len hb hc]; exact Nat.le_refl _)]; simp
theorem part_get (hb : b.length = a.length) (hc : c.length = a.length) (hk : k < a.length) (h : k < (part a b c k).length) : (part a b c k)[k] = a[k] := by
  have hl : ((zip (zip a b) c).take k).length = k := by rw [List.length_take, zz_len hb hc]; omega
  have e : ∀ (l1 l2 : List UInt8) (h1 : l1.length = k) (h2 : k < (l1 ++ l2).length), (l1 ++ l2)[k] = l2[k - l1.length]'(by rw [List.length_append] at h2; omega) := by
    intro l1 l2 h1 h2
    rw [List.getElem_append_right (by omega)]
  refine (e _ _ hl h).trans ?_
  simp [hl]
theorem part_set (hb : b.length = a.length) (hc : c.length = a.length) (hk : k < a.length) : (part a b c k).set k (a[k] ^^^ b[k] ^^^ c[k]) = part a b c (k + 1) := by
  have hl : ((zip (zip a b) c).take k).length = k := by rw [List.length_take, zz_len hb hc]; omega
  have hz : k < (zip (zip a b) c).length := by rw [zz_len hb hc]; exact hk
  unfold part
  rw [List.set_append_right _ _ (by omega), hl, Nat.sub_self, List.drop_eq_getElem_cons hk, List.set_cons_zero, List.take_succ_eq_append_getElem hz, List.append_assoc]
  congr 2
  simp [zip]
end
set_option maxRecDepth 100000 in
set_option maxHeartbeats 800000 in
theorem walk_any (bs : List UInt8) (A : Option Addr) (c : Nat) (bs1 : List UInt8) (A1 : Option Addr) (c1 : Nat) (bs2 : List UInt8) (A2 : Option Addr) (c2 : Nat) (w : World) (hr : Rd w w.heap.size 1 A bs.length c (u8s bs)) (hr1 : Rd w w.heap.size 1 A1 bs1.length c1 (u8s bs1)) (hr2 : Rd w w.heap.size 1 A2 bs2.length c2 (u8s bs2)) :
    Calls Try.prog 7 #[.slice A bs.length c, .slice A1 bs1.length c1, .slice A2 bs2.length c2] w fun e w' => e = .returned (.bool true) ∧ Below w.heap.size w w' := by
  obtain ⟨n, hn⟩ : ∃ n, n = bs.length := ⟨_, rfl⟩
  obtain ⟨n1, hn1⟩ : ∃ n, n = bs1.length := ⟨_, rfl⟩
  obtain ⟨n2, hn2⟩ : ∃ n, n = bs2.length := ⟨_, rfl⟩
  rw [← hn] at hr ⊢
  rw [← hn1] at hr1 ⊢
  rw [← hn2] at hr2 ⊢
  by_cases hok : n ≤ 100000 ∧ n = n1 ∧ n = n2
  · obtain ⟨hle, rfl, rfl⟩ := hok
    have f1 : decide ((100000 : Int) < n) = false := by simp; omega
    have hb1 : bs1.length = bs.length := by omega
    have hb2 : bs2.length = bs.length := by omega
    have HA := Lib.hid (affine hb1 hb2)
    have HB1 := Lib.hid hb1
    have HB2 := Lib.hid hb2
    obtain ⟨z0, hz0⟩ : ∃ z, z = crcN bs := ⟨_, rfl⟩
    obtain ⟨z1, hz1⟩ : ∃ z, z = crcN bs1 := ⟨_, rfl⟩
    obtain ⟨z2, hz2⟩ : ∃ z, z = crcN bs2 := ⟨_, rfl⟩
    have HZ0 := Lib.hid hz0
    have HZ1 := Lib.hid hz1
    have HZ2 := Lib.hid hz2
    have HN := Lib.hid hn
    have HN1 := Lib.hid hn1
    have HN2 := Lib.hid hn2
    have HR := Lib.hid hr
    have HR1 := Lib.hid hr1
    have HR2 := Lib.hid hr2
    clear hr hr1 hr2 hn hn1 hn2 hb1 hb2 hz0 hz1 hz2
    go_enter Try.func7, Try.ntmps7
    go_wp2_with (first
      | (go_at_call 8; refine (awake_any w).mono ?_; rintro e w1 ⟨rfl, hb1⟩; have HB := Lib.hid hb1; have HR' := Lib.hid (Rd.later HR.out hb1); have HR1' := Lib.hid (Rd.later HR1.out hb1); have HR2' := Lib.hid (Rd.later HR2.out hb1); obtain ⟨g, c', w2, hrun, hc', hg, hwr, hb2⟩ := By.run_copy8 w1 HN.out.symm HR'.out (Nat.le_refl _) (by omega); have Hrun := Lib.hid hrun; have HW := Lib.hid hwr; have HB' := Lib.hid hb2; clear hb1 hrun hwr hb2)
      | (at_builtin; refine Lib.wpList_append_run _ rfl _ _ _ _ rfl _ _ rfl rfl _ _ Hrun.out ?_)
      | fail)
    go_loopw [36] (fun q wr => ∃ k : Nat, k ≤ n ∧ q = .int .i64 k ∧ By.Wr wr g (part bs bs1 bs2 k) ∧ Below w1.heap.size w1 wr) (fun q _ => n - (intOf q).toNat)
    case atStart => exact ⟨0, Nat.zero_le _, rfl, by rw [part_zero]; exact HW.out, HB'.out⟩
    case round =>
      obtain ⟨k, hk, rfl, hwr, hB⟩ := hrel
      by_cases hlt : k < n
      · have hk0 : k < bs.length := by rw [← HN.out]; exact hlt
        have hk1 : k < bs1.length := by rw [← HN1.out]; exact hlt
        have hk2 : k < bs2.length := by rw [← HN2.out]; exact hlt
        have hkp : k < (part bs bs1 bs2 k).length := by rw [part_len HB1.out HB2.out (by omega)]; exact hk0
        have k0 := hwr.cell k hkp
        rw [part_get HB1.out HB2.out hk0 hkp] at k0
        have kf := hwr.free k
        obtain ⟨b1, o1, rfl, hl1, hc1⟩ := HR1'.out.at_ (by omega)
        obtain ⟨b2, o2, rfl, hl2, hc2⟩ := HR2'.out.at_ (by omega)
        have k1 : wr.cell? ⟨b1, o1 + k, none⟩ = some (.int .u8 bs1[k].toNat) := (hB.cell (p := ⟨b1, o1 + k, none⟩) hl1).trans (hc1 k _ (u8s_get bs1 k hk1))
        have k2 : wr.cell? ⟨b2, o2 + k, none⟩ = some (.int .u8 bs2[k].toNat) := (hB.cell (p := ⟨b2, o2 + k, none⟩) hl2).trans (hc2 k _ (u8s_get bs2 k hk2))
        have hset := part_set HB1.out HB2.out hk0
        have hx1 := xor8 bs[k] bs1[k]
        have hx2 := xor8 (bs[k] ^^^ bs1[k]) bs2[k]
        obtain ⟨y0, hy0⟩ : ∃ y, y = bs[k].toNat := ⟨_, rfl⟩
        obtain ⟨y1, hy1⟩ : ∃ y, y = bs1[k].toNat := ⟨_, rfl⟩
        obtain ⟨y2, hy2⟩ : ∃ y, y = bs2[k].toNat := ⟨_, rfl⟩
        obtain ⟨y3, hy3⟩ : ∃ y, y = (bs[k] ^^^ bs1[k]).toNat := ⟨_, rfl⟩
        obtain ⟨y4, hy4⟩ : ∃ y, y = (bs[k] ^^^ bs1[k] ^^^ bs2[k]).toNat := ⟨_, rfl⟩
        rw [← hy0] at k0
        rw [← hy1] at k1
        rw [← hy2] at k2
        rw [← hy0, ← hy1, ← hy3] at hx1
        rw [← hy3, ← hy2, ← hy4] at hx2
        have hwr2 := hwr.set hkp (bs[k] ^^^ bs1[k] ^^^ bs2[k])
        rw [hset, ← hy4] at hwr2
        have HW2 := Lib.hid hwr2
        have HWB := Lib.hid hB
        have hkn : (k : Int) < n := by omega
        clear hwr hwr2 hset hy0 hy1 hy2 hy3 hy4 hc1 hc2 hB
        go_wp2
        go_still_tail 17, (by kernel_rfl)
        change wpList _ _ _ _ _ wr.drew
        have j0 : wr.drew.cell? ⟨g, k, none⟩ = some (.int .u8 y0) := k0
        have jf : wr.drew.frozen? ⟨g, k, none⟩ = false := kf
        have HW3 : Hid (By.Wr (wr.drew.setCell ⟨g, k, none⟩ (.int .u8 y4)) g (part bs bs1 bs2 (k + 1))) := HW2.out.drewN 1
        have HWB3 : Hid (Below w1.heap.size w1 (wr.drew.setCell ⟨g, k, none⟩ (.int .u8 y4))) := (bel_drewN HWB.out 1).setCell hg _
        clear HW2 HWB k0 kf
        generalize wr.drew = w3 at *
        go_wp2
        go_roundw
        case rel => exact ⟨k + 1, by omega, by go_num, HW3.out, HWB3.out⟩
        case measure => simp [intOf]; omega
      · have hkn : k = bs.length := by rw [← HN.out]; omega
        have hL : (zip (zip bs bs1) bs2).length = n := by rw [zz_len HB1.out HB2.out]; exact HN.out.symm
        rw [hkn, part_all HB1.out HB2.out] at hwr
        have HX := Lib.hid (hwr.rd hL hc')
        have HXL := Lib.hid hL
        have l0 := crc_lt bs
        have l1 := crc_lt bs1
        have l2 := crc_lt bs2
        rw [← HZ0.out] at l0
        rw [← HZ1.out] at l1
        rw [← HZ2.out] at l2
        have hx1 : bits .xor .u32 (z0 : Int) (z1 : Int) = ((z0 ^^^ z1 : Nat) : Int) := u32_xor_nat _ _ l0 l1
        have hx2 : bits .xor .u32 ((z0 ^^^ z1 : Nat) : Int) (z2 : Int) = ((z0 ^^^ z1 ^^^ z2 : Nat) : Int) := u32_xor_nat _ _ (xor32 l0 l1) l2
        have HA' : Hid (crcN (zip (zip bs bs1) bs2) = z0 ^^^ z1 ^^^ z2) := by unfold Hid; rw [HA.out, ← HZ0.out, ← HZ1.out, ← HZ2.out]
        obtain ⟨y1, hy1⟩ : ∃ y, y = z0 ^^^ z1 := ⟨_, rfl⟩
        rw [← hy1] at hx1 hx2 HA'
        obtain ⟨y2, hy2⟩ : ∃ y, y = y1 ^^^ z2 := ⟨_, rfl⟩
        rw [← hy2] at hx2 HA'
        have HBB := Lib.hid hB
        have HR3 := Lib.hid (Rd.later HR'.out hB)
        have HR4 := Lib.hid (Rd.later HR1'.out hB)
        have HR5 := Lib.hid (Rd.later HR2'.out hB)
        clear hwr hL hkn hB hy1 hy2 l0 l1 l2
        go_wp2_with (go_at_call 9; first
          | ((with_reducible refine (crc_any _ n (some ⟨g, 0, none⟩) c' _ _ HXL.out (by omega) HX.out).mono ?_); rw [HA'.out]; rintro e w' ⟨rfl, rfl⟩)
          | ((with_reducible refine (crc_any bs n A c _ _ HN.out.symm (by omega) HR3.out).mono ?_); rw [← HZ0.out]; rintro e w' ⟨rfl, rfl⟩)
          | ((with_reducible refine (crc_any bs1 n A1 c1 _ _ HN1.out.symm (by omega) HR4.out).mono ?_); rw [← HZ1.out]; rintro e w' ⟨rfl, rfl⟩)
          | ((with_reducible refine (crc_any bs2 n A2 c2 _ _ HN2.out.symm (by omega) HR5.out).mono ?_); rw [← HZ2.out]; rintro e w' ⟨rfl, rfl⟩))
        go_ret
        exact ⟨rfl, HB.out.trans (HBB.out.mono HB.out.size)⟩
  · have hg : decide ((100000 : Int) < n) = true ∨ (decide ((100000 : Int) < n) = false ∧ ((n1 : Int) != n) = true) ∨ (decide ((100000 : Int) < n) = false ∧ ((n1 : Int) != n) = false ∧ ((n2 : Int) != n) = true) := by
      by_cases g1 : n ≤ 100000
      · refine .inr ?_
        by_cases g2 : n = n1
        · refine .inr ⟨by simp; omega, by simp; omega, ?_⟩
          have g3 : n ≠ n2 := fun e => hok ⟨g1, g2, e⟩
          simp; omega
        · exact .inl ⟨by simp; omega, by simp; omega⟩
      · exact .inl (by simp; omega)
    clear hok hr hr1 hr2 hn hn1 hn2
    rcases hg with g1 | ⟨g1, g2⟩ | ⟨g1, g2, g3⟩
    all_goals
      go_enter Try.func7, Try.ntmps7
      go_wp2_with (first
        | (go_at_call 8; refine (awake_any w).mono ?_; rintro e w1 ⟨rfl, hb1⟩)
        | (go_at_call 8; refine (awake_any w1).mono ?_; rintro e w2 ⟨rfl, hb2⟩))
      go_ret
      exact ⟨rfl, hb1.trans (hb2.mono hb1.size)⟩
set_option maxRecDepth 100000 in
theorem lifted (os : Os) (started : os.Started) (H : Type) (enc : TypeId × Value → H) :
    ReturnsInHanded {} Try.checked os 7 .any (Rows.crcAffineSpec.pre6 enc Try.prog Try.f7 Rows.crcAffineRow.domain false) (Rows.crcAffineSpec.post enc Try.prog Try.f7 false true false false) := by
  refine returnsInHanded_of_change (C := Try.checked) own started (by kernel_rfl) Try.func7
    (ChangeSpec.witness6 (enc := enc) (C := Try.checked) false ⟨#[], #[.slice none 0 0, .slice none 0 0, .slice none 0 0], []⟩ 8 (by kernel_rfl) (by kernel_rfl) (by kernel_rfl) (by kernel_rfl)) ?_
  intro W base args ds gs before hval0 hW _ _
  have hval : ∀ (j : Nat) t v, Try.f7.params[j]? = some t → args[j]? = some v → Value.okWide Try.prog W .any base t v := hval0
  have hW' := hW
  obtain ⟨p, q, hA0, hV, rfl, hfz, hnd⟩ := hW
  have hA : DataW.TrodAll enc Try.prog W 0 (fun _ => true) true Try.f7.params.toList args.toList ds p := hA0
  rw [Try.params7] at hA hval
  obtain ⟨v0, v1, v2, d0, d1, d2, p0, p1, p2, rfl, rfl, rfl, h0, h1, h2⟩ := trodAll_three hA
  obtain ⟨rfl, rfl⟩ := trodVars_none hV
  obtain ⟨a0, len0, cap0, rfl⟩ := okWide_slice Try.underlying22 (hval 0 22 v0 rfl rfl)
  obtain ⟨fuel0, hf0⟩ := h0
  obtain ⟨bs0, rfl, hr0, _⟩ := By.bytes_of_trod hf0
  obtain ⟨a1, len1, cap1, rfl⟩ := okWide_slice Try.underlying22 (hval 1 22 v1 rfl rfl)
  obtain ⟨fuel1, hf1⟩ := h1
  obtain ⟨bs1, rfl, hr1, _⟩ := By.bytes_of_trod hf1
  obtain ⟨a2, len2, cap2, rfl⟩ := okWide_slice Try.underlying22 (hval 2 22 v2 rfl rfl)
  obtain ⟨fuel2, hf2⟩ := h2
  obtain ⟨bs2, rfl, hr2, _⟩ := By.bytes_of_trod hf2
  refine (walk_any bs0 a0 cap0 bs1 a1 cap1 bs2 a2 cap2 W hr0 hr1 hr2).mono fun e W' ⟨he, hb⟩ => ?_
  subst he
  exact ⟨_, rfl, law_post hW' (by kernel_rfl) rfl rfl rfl hb⟩
theorem proved : Rows.CrcAffineSaid :=
  OpenClaim.holds_of_wide 7 Try.f7 rfl rfl rfl rfl rfl rfl rfl ⟨rfl, rfl, rfl, rfl, rfl⟩ rfl rfl rfl rfl rfl (by kernel_rfl) Try.func7 (by kernel_rfl)
    (of_decide_eq_true (by kernel_rfl)) (by unfold Func.isWrapper; first | (rw [if_pos (by decide +kernel)]; kernel_rfl) | (rw [if_neg (by decide +kernel)]; exact ⟨rfl, rfl⟩))
    (fun os started H enc _ => lifted os started H enc)
#print axioms proved
end Go.Proofs.Ytmgcodagheeedaa.lawCrcAffine
