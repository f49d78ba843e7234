/- slices.SortStableFunc at sorted's pairs, of any number of elements: blocks, then blocks merged. -/
import Derived.Test.YtolfockpiioncaaSym2
import Derived.Test.YtolfockpiioncaaSorting
namespace Go.Proofs.Ytolfockpiioncaa
open Go.RowKit
namespace SortS
/-- a list on its way: the blocks of s are in order from 0 up to hi -/
def Bk (base g n c : Nat) (xs : Ps) (s hi : Nat) (wr : World) : Prop := ∃ ys, ys.length = xs.length ∧ Same xs ys ∧ Blk ltS ys s 0 hi ∧ Row base g n c wr ys
/-- and the blocks of 2 s up to a, those of s behind it -/
def Bk2 (base g n c : Nat) (xs : Ps) (s a : Nat) (wr : World) : Prop := ∃ ys, ys.length = xs.length ∧ Same xs ys ∧ Blk ltS ys (2 * s) 0 a ∧ Blk ltS ys s a n ∧ Row base g n c wr ys
set_option maxRecDepth 100000 in
set_option maxHeartbeats 20000000 in
theorem stable_any (base g n c : Nat) (xs : Ps) (w : World) (hrow : Row base g n c w xs) (h0 : 0 < n) (hn : n ≤ 1000) :
    Calls Try.prog 46 #[.slice (some ⟨g, 0, none⟩) n c, .int .i64 n, .func (.func 36) #[] #[]] w
      (Turned base g n c (fun ys => Stable xs ys) w) := by
  have HO := Lib.hid hrow
  have hl := hrow.1
  have HL := Lib.hid hl
  clear hrow hl
  go_enter Try.func46, Try.ntmps46
  go_wp2
  go_loopw [7, 8] (fun p q wr => ∃ k : Nat, p = .int .i64 ((k * 20 : Nat) : Int) ∧ q = .int .i64 ((k * 20 + 20 : Nat) : Int) ∧ k * 20 ≤ n ∧ w.grownBy wr (some g) ∧ Hid (Bk base g n c xs 20 (k * 20) wr)) (fun p _ _ => (n - intOf p).toNat)
  case atStart => exact ⟨0, rfl, rfl, Nat.zero_le _, gb_refl _ _, xs, rfl, Same.refl _, by simpa using Blk.none (lt := ltS) xs 20 0, HO.out⟩
  case round =>
    obtain ⟨k, rfl, rfl, hkn, hgb, hbk⟩ := hrel
    obtain ⟨a, ha⟩ : ∃ a, a = k * 20 := ⟨_, rfl⟩
    rw [← ha] at hkn hbk ⊢
    have HA := Lib.hid ha
    clear ha
    by_cases hlt : a + 20 ≤ n
    · obtain ⟨ys, hyl, hsm, hbl, hrw⟩ := hbk.out
      have HI := Lib.hid (insert_any base g n c a (a + 20) ys wr hrw (by omega) hlt hn)
      have HY := Lib.hid (And.intro hyl (And.intro hsm hbl))
      clear hyl hsm hbl hrw hbk
      go_wp2_with (go_at_call 52; refine HI.out.mono ?_; rintro e w2 ⟨rfl, hys, hg2⟩; have HYS := Lib.hid hys; clear hys)
      go_roundw
      case rel =>
        obtain ⟨zs, hseg, hrz⟩ := HYS.out
        obtain ⟨hyl, hsm, hbl⟩ := HY.out
        have hd := Seg.dealt hseg
        have ha := HA.out
        refine ⟨k + 1, ?_, ?_, by omega, gb_trans hgb hg2, zs, hd.1.trans hyl, hsm.trans hd.2.1, ?_, hrz⟩
        · rw [show (k + 1) * 20 = a + 20 by omega]; go_num
        · rw [show (k + 1) * 20 + 20 = a + 20 + 20 by omega]; go_num
        · rw [ha] at hbl hd
          rw [show (k + 1) * 20 = k * 20 + 20 by omega]
          exact hbl.next (Nat.le_refl _) hd
      case measure => have ha := HA.out; simp [intOf]; omega
    · go_upto_region 6 with fail
      go_cut [] (fun wx => w.grownBy wx (some g) ∧ Hid (Bk base g n c xs 20 n wx))
      case first =>
        obtain ⟨ys, hyl, hsm, hbl, hrw⟩ := hbk.out
        have HY := Lib.hid (And.intro hyl (And.intro hsm hbl))
        by_cases han : a < n
        · have HI := Lib.hid (insert_any base g n c a n ys wr hrw han (Nat.le_refl _) hn)
          clear hyl hsm hbl hrw hbk
          go_wp2_with (go_at_call 52; refine HI.out.mono ?_; rintro e w2 ⟨rfl, hys, hg2⟩; have HYS := Lib.hid hys; clear hys)
          go_meet
          obtain ⟨zs, hseg, hrz⟩ := HYS.out
          obtain ⟨hyl, hsm, hbl⟩ := HY.out
          have hd := Seg.dealt hseg
          have ha := HA.out
          refine ⟨gb_trans hgb hg2, zs, hd.1.trans hyl, hsm.trans hd.2.1, ?_, hrz⟩
          rw [ha] at hbl hd
          exact hbl.next (by omega) hd
        · have HRW := Lib.hid hrw
          have hann : a = n := by omega
          clear hyl hsm hbl hrw hbk
          subst hann
          go_wp2_with (go_at_call 52; refine (insert_none _ _ a _ (by omega)).mono ?_; rintro e w2 ⟨rfl, rfl⟩)
          go_meet
          obtain ⟨hyl, hsm, hbl⟩ := HY.out
          exact ⟨hgb, ys, hyl, hsm, hbl, HRW.out⟩
      case rest =>
        obtain ⟨hgb2, hbk2⟩ := hcut
        clear hgb hbk hkn HA hlt
        go_wp2
        go_loopw [6] (fun p wr => ∃ s : Nat, p = .int .i64 s ∧ 20 ≤ s ∧ s ≤ 4000 ∧ w.grownBy wr (some g) ∧ Hid (Bk base g n c xs s n wr)) (fun p _ => (n - intOf p).toNat)
        case atStart => exact ⟨20, rfl, by omega, by omega, hgb2, hbk2⟩
        case round =>
          obtain ⟨s, rfl, hs20, hs4, hgb3, hbk3⟩ := hrel
          clear hgb2 hbk2
          by_cases hsn : s < n
          · go_wp2
            obtain ⟨wo, hwo⟩ : ∃ wo : World, wo = wr := ⟨_, rfl⟩
            go_loopw [7, 8] (fun p q wr => ∃ k a : Nat, p = .int .i64 a ∧ q = .int .i64 ((a + 2 * s : Nat) : Int) ∧ a ≤ n ∧ w.grownBy wr (some g) ∧ Hid (a = k * (2 * s) ∧ Bk2 base g n c xs s a wr)) (fun p _ _ => (n - intOf p).toNat)
            case atStart =>
              obtain ⟨ys, hyl, hsm, hbl, hrw⟩ := hbk3.out
              exact ⟨0, 0, rfl, by go_num, Nat.zero_le _, hgb3, by omega, ys, hyl, hsm, Blk.none _ _ _, hbl, hrw⟩
            case round =>
              obtain ⟨k, a, rfl, rfl, han, hgb4, hbk4⟩ := hrel
              obtain ⟨hak, ys, hyl, hsm, hb1, hb2, hrw⟩ := hbk4.out
              have ha2 : a = 2 * k * s := by rw [hak, ← Nat.mul_assoc, Nat.mul_comm k 2]
              have HA := Lib.hid (And.intro hak ha2)
              have HY := Lib.hid (And.intro hyl (And.intro hsm (And.intro hb1 hb2)))
              have HRW := Lib.hid hrw
              have hyn : ys.length = n := hrw.1
              have HYN := Lib.hid hyn
              clear hak ha2 hyl hsm hb1 hb2 hrw hyn hbk4
              have hrun : ∀ b, a + s ≤ b → b ≤ a + 2 * s → b ≤ n → Runs ltS ys a (a + s) b := fun b h1 h2 h3 => by
                have hr := Blk.runs (k := 2 * k) (s := s) (b := b) (n := n) (xs := ys) (by rw [← HA.out.2]; exact HY.out.2.2.2) (by rw [← HA.out.2]; exact h1) (by rw [← HA.out.2]; exact h2) h3 (by rw [HYN.out]; exact Nat.le_refl _) (by omega)
                rwa [← HA.out.2] at hr
              have HRun := Lib.hid hrun
              clear hrun
              obtain ⟨m, hm⟩ : ∃ m, m = a + s := ⟨_, rfl⟩
              have hm1 : (a : Int) + s = (m : Int) := by omega
              have hm2 : IntKind.i64.wrap (m : Int) = (m : Int) := IntWalk.i64_in _ (by omega)
              have HM := Lib.hid hm
              by_cases hlt : a + 2 * s ≤ n
              · obtain ⟨b, hb⟩ : ∃ b, b = a + 2 * s := ⟨_, rfl⟩
                have HI := Lib.hid (sym_all base g n c hn (b - a) a m b (Nat.le_refl _) (by omega) (by omega) (by omega) ys wr HRW.out (by rw [hm]; exact HRun.out b (by omega) (by omega) (by omega)))
                rw [← hb]
                have HB := Lib.hid hb
                have hbn : (b : Int) ≤ n := by omega
                have hbn' : b ≤ n := by omega
                have hb4 : b ≤ 2000 := by omega
                clear hb hm hlt
                go_wp2_with (go_at_call 53; refine HI.out.mono ?_; rintro e w2 ⟨rfl, hys, hg2⟩; have HYS := Lib.hid hys; clear hys)
                go_roundw
                case rel =>
                  obtain ⟨zs, hmg, hrz⟩ := HYS.out
                  obtain ⟨hyl, hsm, hb1, hb2⟩ := HY.out
                  obtain ⟨hak, _⟩ := HA.out
                  have hd := hmg.dealt
                  have hb := HB.out
                  refine ⟨k + 1, b, rfl, by go_num, hbn', gb_trans hgb4 hg2, ?_, zs, hd.1.trans hyl, hsm.trans hd.2.1, ?_, ?_, hrz⟩
                  · rw [Nat.add_mul, Nat.one_mul, ← hak]; exact hb
                  · rw [hak] at hb1 hd
                    rw [hb, hak] at hd ⊢
                    exact hb1.next (Nat.le_refl _) (by rw [← hak, ← hb] at hd ⊢; exact hd)
                  · exact (hb2.part (by omega) (Nat.le_refl _)).rest (Nat.le_refl _) hd
                case measure => have hb := HB.out; simp [intOf]; omega
              · by_cases hmn : m < n
                · have HI := Lib.hid (sym_all base g n c hn (n - a) a m n (Nat.le_refl _) (by omega) hmn (Nat.le_refl _) ys wr HRW.out (by rw [hm]; exact HRun.out n (by omega) (by omega) (Nat.le_refl _)))
                  clear hm
                  go_wp2_with (go_at_call 53; refine HI.out.mono ?_; rintro e w2 ⟨rfl, hys, hg2⟩; have HYS := Lib.hid hys; clear hys)
                  go_roundw
                  case rel =>
                    obtain ⟨zs, hmg, hrz⟩ := HYS.out
                    obtain ⟨hyl, hsm, hb1, hb2⟩ := HY.out
                    obtain ⟨hak, _⟩ := HA.out
                    have hd := hmg.dealt
                    have hm := HM.out
                    refine ⟨2 * s, by go_num, by omega, by omega, gb_trans hgb4 hg2, zs, hd.1.trans hyl, hsm.trans hd.2.1, ?_, hrz⟩
                    rw [hak] at hb1 hd hlt
                    exact hb1.next (by omega) hd
                  case measure => simp [intOf]; omega
                · clear hm
                  go_wp2
                  go_roundw
                  case rel =>
                    obtain ⟨hyl, hsm, hb1, hb2⟩ := HY.out
                    obtain ⟨hak, _⟩ := HA.out
                    have hm := HM.out
                    refine ⟨2 * s, by go_num, by omega, by omega, hgb4, ys, hyl, hsm, ?_, HRW.out⟩
                    rw [hak] at hb1 hb2 hm
                    exact hb1.last hb2 (by omega)
                  case measure => simp [intOf]; omega
          · have hfin : Hid (∃ ys, Stable xs ys ∧ Row base g n c wr ys) := by
              obtain ⟨ys, hyl, hsm, hbl, hrw⟩ := hbk3.out
              have hyn : ys.length = n := hrw.1
              exact ⟨ys, ⟨hyl, Blk.srt (by rw [hyn]; exact hbl) (by omega), hsm⟩, hrw⟩
            go_wp2
            go_end0
            exact ⟨rfl, hfin.out, hgb3⟩
set_option maxRecDepth 100000 in
theorem sort_any (base g n c : Nat) (xs : Ps) (w : World) (hrow : Row base g n c w xs) (h0 : 0 < n) (hn : n ≤ 1000) :
    Calls Try.prog 35 #[.slice (some ⟨g, 0, none⟩) n c, .func (.func 36) #[] #[]] w
      (Turned base g n c (fun ys => Stable xs ys) w) := by
  have HI := Lib.hid (stable_any base g n c xs w hrow h0 hn)
  clear hrow
  go_enter Try.func35, Try.ntmps35
  go_wp2_with (go_at_call 46; refine HI.out.mono ?_; rintro e w2 ⟨rfl, hys, hgr⟩; (have HYS := Lib.hid hys); clear hys)
  go_end0
  exact ⟨rfl, HYS.out, hgr⟩
end SortS
end Go.Proofs.Ytolfockpiioncaa
