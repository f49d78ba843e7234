/- slices' symmetric merge at sorted's pairs, its two base cases: one element goes up, one goes down. -/
import Derived.Test.YtolfockpiioncaaTurn
namespace Go.Proofs.Ytolfockpiioncaa
open Go.RowKit
namespace SortS
/-- the search for where the one at a goes: i up, j down -/
def UpAt (xs : Ps) (a b i j : Nat) : Prop :=
  (i = a + 1 ∨ ∃ x y, xs[i - 1]? = some x ∧ xs[a]? = some y ∧ ltS x.1 y.1) ∧ (j = b ∨ ∃ x y, xs[a]? = some x ∧ xs[j]? = some y ∧ Le ltS x y)
set_option maxRecDepth 100000 in
set_option maxHeartbeats 1000000 in
theorem sym_up (base g n c a b : Nat) (xs : Ps) (w : World) (hrow : Row base g n c w xs) (hr : Runs ltS xs a (a + 1) b) (hab : a + 1 < b) (hbn : b ≤ n) (hn : n ≤ 1000) :
    Calls Try.prog 53 #[.slice (some ⟨g, 0, none⟩) n c, .int .i64 a, .int .i64 ((a + 1 : Nat) : Int), .int .i64 b, .func (.func 36) #[] #[]] w
      (Turned base g n c (fun ys => Merged ltS xs ys a (a + 1) b) w) := by
  have hg := hrow.lt
  have hO := Lib.hid hrow
  have HR := Lib.hid hr
  have hlen : xs.length = n := hrow.1
  clear hrow hr
  obtain ⟨m, hm⟩ : ∃ m, m = a + 1 := ⟨_, rfl⟩
  rw [← hm]
  have hw0 : IntKind.i64.wrap ((m : Int) - a) = 1 := by rw [IntWalk.i64_in _ (by omega)]; omega
  have hw0' : (m : Int) - a = 1 := by omega
  have hal : a < xs.length := by omega
  obtain ⟨u, hu⟩ : ∃ u, u = xs[a] := ⟨_, rfl⟩
  have k2 : w.cell? ⟨g, a * 2, none⟩ = some (.string u.1) := by rw [hu]; exact hO.out.fst a hal
  have k3 : w.cell? ⟨g, a * 2 + 1, none⟩ = some (.int .i64 u.2) := by rw [hu]; exact hO.out.snd a hal
  have HM := Lib.hid hm
  have HU := Lib.hid hu
  have HL := Lib.hid hlen
  have hmb : m < b := by omega
  have ham : a < m := by omega
  have han : (a : Int) < n := by omega
  have han' : a < n := by omega
  clear hm hu hlen
  go_enter Try.func53, Try.ntmps53
  go_wp2
  go_loopw [10, 11] (fun v q wr => ∃ i j : Nat, v = .int .i64 i ∧ q = .int .i64 j ∧ m ≤ i ∧ i ≤ j ∧ j ≤ b ∧ Below w.heap.size w wr ∧ Hid (UpAt xs a b i j)) (fun v q _ => (intOf q - intOf v).toNat)
  case atStart => exact ⟨m, b, rfl, rfl, Nat.le_refl _, by omega, Nat.le_refl _, Below.refl _ _, .inl HM.out, .inl rfl⟩
  case round =>
    obtain ⟨i, j, rfl, rfl, hmi, hij, hjb, hb, hup⟩ := hrel
    by_cases hlt : i < j
    · obtain ⟨h, hh, hhi, hhj⟩ : ∃ h : Nat, ((i : Int) + j) / 2 = (h : Int) ∧ i ≤ h ∧ h < j := ⟨(i + j) / 2, by omega, by omega, by omega⟩
      have hi0 : (i : Int) < j := by omega
      have hhl : h < xs.length := by have := HL.out; omega
      obtain ⟨x, hx⟩ : ∃ x, x = xs[h] := ⟨_, rfl⟩
      have k0 : w.cell? ⟨g, h * 2, none⟩ = some (.string x.1) := by rw [hx]; exact hO.out.fst h hhl
      have k1 : w.cell? ⟨g, h * 2 + 1, none⟩ = some (.int .i64 x.2) := by rw [hx]; exact hO.out.snd h hhl
      have c0 := (hb.cell (p := ⟨g, h * 2, none⟩) hg).trans k0
      have c1 := (hb.cell (p := ⟨g, h * 2 + 1, none⟩) hg).trans k1
      have c2 := (hb.cell (p := ⟨g, a * 2, none⟩) hg).trans k2
      have c3 := (hb.cell (p := ⟨g, a * 2 + 1, none⟩) hg).trans k3
      have hgr : g < wr.heap.size := Nat.lt_of_lt_of_le hg hb.size
      have hhn : (h : Int) < n := by omega
      have hhn' : h < n := by omega
      have HX := Lib.hid hx
      have HC := fun w' => Lib.hid (of1_any x.1 u.1 x.2 u.2 w')
      clear hx
      go_wp2
      go_region_held3 (fun w' => w'.cell? ⟨g, h * 2, none⟩ = some (.string x.1) ∧ w'.cell? ⟨g, h * 2 + 1, none⟩ = some (.int .i64 x.2) ∧ w'.cell? ⟨g, a * 2, none⟩ = some (.string u.1) ∧ w'.cell? ⟨g, a * 2 + 1, none⟩ = some (.int .i64 u.2)) (go_keep) (first | (go_at_call 36; refine (HC _).out.mono ?_; rintro e w2 ⟨rfl, hb2⟩; (have j0 : w2.cell? ⟨g, h * 2, none⟩ = some (.string x.1) := (hb2.cell (p := ⟨g, h * 2, none⟩) hgr).trans c0); (have j1 : w2.cell? ⟨g, h * 2 + 1, none⟩ = some (.int .i64 x.2) := (hb2.cell (p := ⟨g, h * 2 + 1, none⟩) hgr).trans c1); (have j2 : w2.cell? ⟨g, a * 2, none⟩ = some (.string u.1) := (hb2.cell (p := ⟨g, a * 2, none⟩) hgr).trans c2); (have j3 : w2.cell? ⟨g, a * 2 + 1, none⟩ = some (.int .i64 u.2) := (hb2.cell (p := ⟨g, a * 2 + 1, none⟩) hgr).trans c3)))
      go_wp2
      · have hc : cmpK ltS x.1 u.1 < 0 := by assumption
        have hcl := cmpK_neg hc
        go_roundw
        case rel => exact ⟨h + 1, j, by go_num, rfl, by omega, by omega, hjb, (bel_drewN hb 1).trans (hb2.mono hb.size), ⟨.inr ⟨x, u, (by rw [HX.out]; exact List.getElem?_eq_getElem hhl), (by rw [HU.out]; exact List.getElem?_eq_getElem hal), hcl⟩, hup.out.2⟩⟩
        case measure => simp [intOf]; omega
      · have hc : 0 ≤ cmpK ltS x.1 u.1 := by assumption
        have hcl := cmpK_nneg hc
        go_roundw
        case rel => exact ⟨i, h, rfl, rfl, hmi, hhi, by omega, (bel_drewN hb 1).trans (hb2.mono hb.size), ⟨hup.out.1, .inr ⟨u, x, (by rw [HU.out]; exact List.getElem?_eq_getElem hal), (by rw [HX.out]; exact List.getElem?_eq_getElem hhl), hcl⟩⟩⟩
        case measure => simp [intOf]; omega
    · obtain rfl : i = j := by omega
      obtain ⟨im, him⟩ : ∃ im, i = im + 1 := ⟨i - 1, by omega⟩
      have hwi : IntKind.i64.wrap ((i : Int) - 1) = (im : Int) := by rw [IntWalk.i64_in _ (by omega)]; omega
      have hwi' : (i : Int) - 1 = (im : Int) := by omega
      have HIM := Lib.hid him
      have haim : a ≤ im := by omega
      have himn : im < n := by omega
      clear him
      go_wp2
      obtain ⟨wo, hwo⟩ : ∃ wo : World, wo = wr := ⟨_, rfl⟩
      go_loopw [13] (fun v wr => ∃ k : Nat, v = .int .i64 k ∧ a ≤ k ∧ k ≤ im ∧ w.grownBy wr (some g) ∧ Hid (∃ ys, Rotated xs ys a (a + 1) (k + 1) ∧ Row base g n c wr ys)) (fun v _ => (im - intOf v).toNat)
      case atStart => exact ⟨a, rfl, Nat.le_refl _, haim, gb_later (gb_refl _ _) hb, xs, Rotated.none xs (by omega) (by omega) (by omega) (.inr rfl), hO.out.later hb⟩
      case round =>
        obtain ⟨k, rfl, hak, hkm, hgr, hys⟩ := hrel
        by_cases hlt2 : k < im
        · obtain ⟨ys, hrt, hrw⟩ := hys.out
          have hlen : ys.length = n := hrw.1
          obtain ⟨q, hq⟩ : ∃ q, q = k + 1 := ⟨_, rfl⟩
          have hpl : k < ys.length := by omega
          have hql : q < ys.length := by omega
          have hin := hrw.lt
          obtain ⟨x, hx⟩ : ∃ x, x = ys[k] := ⟨_, rfl⟩
          obtain ⟨v, hv⟩ : ∃ v, v = ys[q] := ⟨_, rfl⟩
          have d0 : wr.cell? ⟨g, k * 2, none⟩ = some (.string x.1) := by rw [hx]; exact hrw.fst k hpl
          have d1 : wr.cell? ⟨g, k * 2 + 1, none⟩ = some (.int .i64 x.2) := by rw [hx]; exact hrw.snd k hpl
          have d2 : wr.cell? ⟨g, q * 2, none⟩ = some (.string v.1) := by rw [hv]; exact hrw.fst q hql
          have d3 : wr.cell? ⟨g, q * 2 + 1, none⟩ = some (.int .i64 v.2) := by rw [hv]; exact hrw.snd q hql
          have l0 := hrw.frozen (k * 2)
          have l1 := hrw.frozen (k * 2 + 1)
          have l2 := hrw.frozen (q * 2)
          have l3 := hrw.frozen (q * 2 + 1)
          have HR3 := Lib.hid (hrw.set2 k hpl v)
          have hql2 : q < (ys.set k v).length := by simpa using hql
          have hne : k ≠ q := by omega
          have m2 := HR3.out.fst q hql2
          have m3 := HR3.out.snd q hql2
          rw [List.getElem_set_ne hne, ← hv] at m2 m3
          have hql2' := Lib.hid hql2
          have HX := Lib.hid hx
          have HV := Lib.hid hv
          have HQ := Lib.hid hq
          have hwq : IntKind.i64.wrap ((k : Int) + 1) = (q : Int) := by rw [IntWalk.i64_in _ (by omega)]; omega
          have hwq' : (k : Int) + 1 = (q : Int) := by omega
          have hkn : (k : Int) < n := by omega
          have hqn : (q : Int) < n := by omega
          have hkn' : k < n := by omega
          have hqn' : q < n := by omega
          have hlt3 : (k : Int) < im := by omega
          clear hrw hx hv hq hlen hys hql2 hne
          go_wp2
          go_region
          go_wp2
          go_roundw
          case rel => exact ⟨q, by go_num, by have := HQ.out; omega, by have := HQ.out; omega, gb_drew (gb_set (gb_set (gb_set (gb_set hgr _ _) _ _) _ _) _ _),
            (ys.set k v).set q x, (by
              have eq' := HQ.out
              have ex := HX.out
              have ev := HV.out
              subst eq'
              rw [ex, ev]
              exact hrt.up hpl hql), (HR3.out.set2 q hql2'.out x).drew⟩
          case measure => have := HQ.out; simp [intOf]; omega
        · obtain rfl : k = im := by omega
          go_wp2
          go_end0
          obtain ⟨ys, hrt, hrw⟩ := hys.out
          refine ⟨rfl, ⟨ys, ?_, hrw⟩, hgr⟩
          have e := HIM.out
          rw [HM.out]
          exact HR.out.one_up tot_str (i := i) (by omega) hjb hup.out.1 hup.out.2 (by rw [e]; exact hrt)
/-- the search for where the one at m goes: i up, j down -/
def DownAt (xs : Ps) (a m i j : Nat) : Prop :=
  (i = a ∨ ∃ x y, xs[i - 1]? = some x ∧ xs[m]? = some y ∧ Le ltS x y) ∧ (j = m ∨ ∃ x y, xs[m]? = some x ∧ xs[j]? = some y ∧ ltS x.1 y.1)
set_option maxRecDepth 100000 in
set_option maxHeartbeats 1000000 in
theorem sym_down (base g n c a m b : Nat) (xs : Ps) (w : World) (hrow : Row base g n c w xs) (hr : Runs ltS xs a m (m + 1)) (hb1 : b = m + 1) (ham : a < m) (ham1 : m ≠ a + 1) (hbn : m < n) (hn : n ≤ 1000) :
    Calls Try.prog 53 #[.slice (some ⟨g, 0, none⟩) n c, .int .i64 a, .int .i64 m, .int .i64 b, .func (.func 36) #[] #[]] w
      (Turned base g n c (fun ys => Merged ltS xs ys a m b) w) := by
  have hg := hrow.lt
  have hO := Lib.hid hrow
  have HR := Lib.hid hr
  have hlen : xs.length = n := hrow.1
  clear hrow hr
  obtain ⟨d, hd⟩ : ∃ d, d = m - a := ⟨_, rfl⟩
  have hw1 : IntKind.i64.wrap ((m : Int) - a) = (d : Int) := by rw [IntWalk.i64_in _ (by omega)]; omega
  have hw1' : (m : Int) - a = (d : Int) := by omega
  have hd1 : (d : Int) ≠ 1 := by omega
  have hw0 : IntKind.i64.wrap ((b : Int) - m) = 1 := by rw [IntWalk.i64_in _ (by omega)]; omega
  have hw0' : (b : Int) - m = 1 := by omega
  have hml : m < xs.length := by omega
  obtain ⟨u, hu⟩ : ∃ u, u = xs[m] := ⟨_, rfl⟩
  have k2 : w.cell? ⟨g, m * 2, none⟩ = some (.string u.1) := by rw [hu]; exact hO.out.fst m hml
  have k3 : w.cell? ⟨g, m * 2 + 1, none⟩ = some (.int .i64 u.2) := by rw [hu]; exact hO.out.snd m hml
  have HB := Lib.hid hb1
  have HU := Lib.hid hu
  have HL := Lib.hid hlen
  have hmn : (m : Int) < n := by omega
  clear hb1 hu hlen hd ham1
  go_enter Try.func53, Try.ntmps53
  go_wp2
  go_loopw [14, 15] (fun v q wr => ∃ i j : Nat, v = .int .i64 i ∧ q = .int .i64 j ∧ a ≤ i ∧ i ≤ j ∧ j ≤ m ∧ Below w.heap.size w wr ∧ Hid (DownAt xs a m i j)) (fun v q _ => (intOf q - intOf v).toNat)
  case atStart => exact ⟨a, m, rfl, rfl, Nat.le_refl _, by omega, Nat.le_refl _, Below.refl _ _, .inl rfl, .inl rfl⟩
  case round =>
    obtain ⟨i, j, rfl, rfl, hmi, hij, hjb, hb, hup⟩ := hrel
    by_cases hlt : i < j
    · obtain ⟨h, hh, hhi, hhj⟩ : ∃ h : Nat, ((i : Int) + j) / 2 = (h : Int) ∧ i ≤ h ∧ h < j := ⟨(i + j) / 2, by omega, by omega, by omega⟩
      have hi0 : (i : Int) < j := by omega
      have hhl : h < xs.length := by have := HL.out; omega
      obtain ⟨x, hx⟩ : ∃ x, x = xs[h] := ⟨_, rfl⟩
      have k0 : w.cell? ⟨g, h * 2, none⟩ = some (.string x.1) := by rw [hx]; exact hO.out.fst h hhl
      have k1 : w.cell? ⟨g, h * 2 + 1, none⟩ = some (.int .i64 x.2) := by rw [hx]; exact hO.out.snd h hhl
      have c0 := (hb.cell (p := ⟨g, h * 2, none⟩) hg).trans k0
      have c1 := (hb.cell (p := ⟨g, h * 2 + 1, none⟩) hg).trans k1
      have c2 := (hb.cell (p := ⟨g, m * 2, none⟩) hg).trans k2
      have c3 := (hb.cell (p := ⟨g, m * 2 + 1, none⟩) hg).trans k3
      have hgr : g < wr.heap.size := Nat.lt_of_lt_of_le hg hb.size
      have hhn : (h : Int) < n := by omega
      have hhn' : h < n := by omega
      have HX := Lib.hid hx
      have HC := fun w' => Lib.hid (of1_any u.1 x.1 u.2 x.2 w')
      clear hx
      go_wp2
      go_region_held3 (fun w' => w'.cell? ⟨g, h * 2, none⟩ = some (.string x.1) ∧ w'.cell? ⟨g, h * 2 + 1, none⟩ = some (.int .i64 x.2) ∧ w'.cell? ⟨g, m * 2, none⟩ = some (.string u.1) ∧ w'.cell? ⟨g, m * 2 + 1, none⟩ = some (.int .i64 u.2)) (go_keep) (first | (go_at_call 36; refine (HC _).out.mono ?_; rintro e w2 ⟨rfl, hb2⟩; (have j0 : w2.cell? ⟨g, h * 2, none⟩ = some (.string x.1) := (hb2.cell (p := ⟨g, h * 2, none⟩) hgr).trans c0); (have j1 : w2.cell? ⟨g, h * 2 + 1, none⟩ = some (.int .i64 x.2) := (hb2.cell (p := ⟨g, h * 2 + 1, none⟩) hgr).trans c1); (have j2 : w2.cell? ⟨g, m * 2, none⟩ = some (.string u.1) := (hb2.cell (p := ⟨g, m * 2, none⟩) hgr).trans c2); (have j3 : w2.cell? ⟨g, m * 2 + 1, none⟩ = some (.int .i64 u.2) := (hb2.cell (p := ⟨g, m * 2 + 1, none⟩) hgr).trans c3)))
      go_wp2
      · have hc : 0 ≤ cmpK ltS u.1 x.1 := by
          have hq : (!decide (cmpK ltS u.1 x.1 < 0)) = true := by assumption
          simpa using hq
        have hcl := cmpK_nneg hc
        go_roundw
        case rel =>
         go_simp
         exact ⟨h + 1, by omega, j, rfl, by omega, by omega, hjb, (bel_drewN hb 1).trans (hb2.mono hb.size), ⟨.inr ⟨x, u, (by rw [HX.out]; exact List.getElem?_eq_getElem hhl), (by rw [HU.out]; exact List.getElem?_eq_getElem hml), hcl⟩, hup.out.2⟩⟩
        case measure => simp [intOf]; omega
      · have hc : cmpK ltS u.1 x.1 < 0 := by
          have hq : (!decide (cmpK ltS u.1 x.1 < 0)) = false := by assumption
          simpa using hq
        have hcl := cmpK_neg hc
        go_roundw
        case rel =>
         go_simp
         exact ⟨i, rfl, h, rfl, hmi, hhi, by omega, (bel_drewN hb 1).trans (hb2.mono hb.size), ⟨hup.out.1, .inr ⟨u, x, (by rw [HU.out]; exact List.getElem?_eq_getElem hml), (by rw [HX.out]; exact List.getElem?_eq_getElem hhl), hcl⟩⟩⟩
        case measure => simp [intOf]; omega
    · obtain rfl : i = j := by omega
      go_wp2
      obtain ⟨wo, hwo⟩ : ∃ wo : World, wo = wr := ⟨_, rfl⟩
      go_loopw [17] (fun v wr => ∃ k : Nat, v = .int .i64 k ∧ i ≤ k ∧ k ≤ m ∧ w.grownBy wr (some g) ∧ Hid (∃ ys, Rotated xs ys k m (m + 1) ∧ Row base g n c wr ys)) (fun v _ => (intOf v).toNat)
      case atStart => exact ⟨m, rfl, hjb, Nat.le_refl _, gb_later (gb_refl _ _) hb, xs, Rotated.none xs (Nat.le_refl _) (by omega) (by have := HL.out; omega) (.inl rfl), hO.out.later hb⟩
      case round =>
        obtain ⟨k, rfl, hik, hkm, hgr, hys⟩ := hrel
        by_cases hlt2 : i < k
        · obtain ⟨ys, hrt, hrw⟩ := hys.out
          have hlen : ys.length = n := hrw.1
          obtain ⟨q, hq⟩ : ∃ q, k = q + 1 := ⟨k - 1, by omega⟩
          have hpl : k < ys.length := by omega
          have hql : q < ys.length := by omega
          have hin := hrw.lt
          obtain ⟨x, hx⟩ : ∃ x, x = ys[k] := ⟨_, rfl⟩
          obtain ⟨v, hv⟩ : ∃ v, v = ys[q] := ⟨_, rfl⟩
          have d0 : wr.cell? ⟨g, k * 2, none⟩ = some (.string x.1) := by rw [hx]; exact hrw.fst k hpl
          have d1 : wr.cell? ⟨g, k * 2 + 1, none⟩ = some (.int .i64 x.2) := by rw [hx]; exact hrw.snd k hpl
          have d2 : wr.cell? ⟨g, q * 2, none⟩ = some (.string v.1) := by rw [hv]; exact hrw.fst q hql
          have d3 : wr.cell? ⟨g, q * 2 + 1, none⟩ = some (.int .i64 v.2) := by rw [hv]; exact hrw.snd q hql
          have l0 := hrw.frozen (k * 2)
          have l1 := hrw.frozen (k * 2 + 1)
          have l2 := hrw.frozen (q * 2)
          have l3 := hrw.frozen (q * 2 + 1)
          have HR3 := Lib.hid (hrw.set2 k hpl v)
          have hql2 : q < (ys.set k v).length := by simpa using hql
          have hne : k ≠ q := by omega
          have m2 := HR3.out.fst q hql2
          have m3 := HR3.out.snd q hql2
          rw [List.getElem_set_ne hne, ← hv] at m2 m3
          have hql2' := Lib.hid hql2
          have HX := Lib.hid hx
          have HV := Lib.hid hv
          have HQ := Lib.hid hq
          have hwq : IntKind.i64.wrap ((k : Int) - 1) = (q : Int) := by rw [IntWalk.i64_in _ (by omega)]; omega
          have hwq' : (k : Int) - 1 = (q : Int) := by omega
          have hkn : (k : Int) < n := by omega
          have hqn : (q : Int) < n := by omega
          have hkn' : k < n := by omega
          have hqn' : q < n := by omega
          have hlt3 : (i : Int) < k := by omega
          clear hrw hx hv hq hlen hys hql2 hne
          go_wp2
          go_region
          go_wp2
          go_roundw
          case rel => exact ⟨q, by go_num, by have := HQ.out; omega, by have := HQ.out; omega, gb_drew (gb_set (gb_set (gb_set (gb_set hgr _ _) _ _) _ _) _ _),
            (ys.set k v).set q x, (by
              have eq' := HQ.out
              have ex := HX.out
              have ev := HV.out
              subst eq'
              rw [ex, ev]
              exact hrt.down hql hpl), (HR3.out.set2 q hql2'.out x).drew⟩
          case measure => have := HQ.out; simp [intOf]; omega
        · obtain rfl : k = i := by omega
          go_wp2
          go_end0
          obtain ⟨ys, hrt, hrw⟩ := hys.out
          refine ⟨rfl, ⟨ys, ?_, hrw⟩, hgr⟩
          rw [HB.out]
          exact HR.out.one_down tot_str hmi hjb hup.out.1 hup.out.2 hrt
end SortS
end Go.Proofs.Ytolfockpiioncaa
