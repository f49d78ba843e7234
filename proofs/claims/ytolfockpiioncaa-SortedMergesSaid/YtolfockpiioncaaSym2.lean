/- slices' symmetric merge at sorted's pairs, the general case: a search, then what XSymTail says. -/
import Derived.Test.YtolfockpiioncaaSymTail
import Derived.Deep.DeepCutAuto
import Derived.Deep.CutBlock
namespace Go.Proofs.Ytolfockpiioncaa
open Go.RowKit
namespace SortS
set_option maxRecDepth 100000 in
set_option maxHeartbeats 20000000 in
theorem sym_gen (base g n c a m b mid s0 r0 n0 p : Nat) (xs : Ps) (w : World) (hrow : Row base g n c w xs) (hr : Runs ltS xs a m b) (ham : a + 1 < m) (hmb : m + 1 < b) (hbn : b ≤ n) (hn : n ≤ 1000)
    (hmid : mid = (a + b) / 2) (hn0 : n0 = mid + m) (hp : p + 1 = n0) (hs : (mid < m ∧ s0 + b = n0 ∧ r0 = mid) ∨ (m ≤ mid ∧ s0 = a ∧ r0 = m))
    (ih : ∀ a' m' b', a ≤ a' → b' ≤ b → b' - a' < b - a → a' < m' → m' < b' → SymOk base g n c a' m' b') :
    Calls Try.prog 53 #[.slice (some ⟨g, 0, none⟩) n c, .int .i64 a, .int .i64 m, .int .i64 b, .func (.func 36) #[] #[]] w
      (Turned base g n c (fun ys => Merged ltS xs ys a m b) w) := by
  have hg := hrow.lt
  have hO := Lib.hid hrow
  have HR := Lib.hid hr
  have hlen : xs.length = n := hrow.1
  have HL := Lib.hid hlen
  clear hrow hr hlen
  have w1 : IntKind.i64.wrap ((m : Int) - a) = (m : Int) - a := IntWalk.i64_in _ (by omega)
  have w2 : IntKind.i64.wrap ((b : Int) - m) = (b : Int) - m := IntWalk.i64_in _ (by omega)
  have t1 : ((m : Int) - a == 1) = false := by simp; omega
  have t2 : ((b : Int) - m == 1) = false := by simp; omega
  have w3 : ((a : Int) + b) / 2 = (mid : Int) := by omega
  have w4 : (mid : Int) + m = (n0 : Int) := by omega
  have w5 : (n0 : Int) - 1 = (p : Int) := by omega
  have hb1 : a ≤ s0 ∧ s0 ≤ r0 ∧ r0 ≤ m ∧ r0 ≤ mid ∧ n0 - r0 ≥ m ∧ n0 ≤ s0 + b ∧ mid < b ∧ a < mid ∧ n0 ≤ 2000 := by omega
  obtain ⟨q1, q2, q3, q4, q5, q6, q7, q8, q9⟩ := hb1
  have HS := Lib.hid hs
  have HM := Lib.hid hmid
  have HN := Lib.hid hn0
  have HP := Lib.hid hp
  have hcase : ((mid : Int) < m ∧ (n0 : Int) - b = (s0 : Int) ∧ r0 = mid) ∨ ((m : Int) ≤ mid ∧ s0 = a ∧ r0 = m) := by
    rcases hs with ⟨h1, h2, h3⟩ | ⟨h1, h2, h3⟩
    · exact .inl ⟨by omega, by omega, h3⟩
    · exact .inr ⟨by omega, h2, h3⟩
  clear hmid hn0 hp hs
  go_enter Try.func53, Try.ntmps53
  go_upto_if 140 with fail
  go_cut [20, 21] (fun s20 s21 wx => s20 = .int .i64 s0 ∧ s21 = .int .i64 r0 ∧ w = wx)
  case first =>
    rcases hcase with ⟨h1, h2, h3⟩ | ⟨h1, h2, h3⟩
    · have H3 := Lib.hid h3
      have h1' : mid < m := by omega
      clear h3
      go_wp2_with fail
      go_meet
      refine ⟨?_, ?_, rfl⟩
      · first | rfl | (go_simp; omega)
      · rw [H3.out]
    · have H2 := Lib.hid h2
      have H3 := Lib.hid h3
      have h1' : m ≤ mid := by omega
      clear h2 h3
      go_wp2_with fail
      go_meet
      refine ⟨?_, ?_, rfl⟩
      · rw [H2.out]
      · rw [H3.out]
  case rest =>
    obtain ⟨rfl, rfl, rfl⟩ := hcut
    clear hcase w1 w2 t1 t2 w3
    go_upto_block 8 with fail
    go_cut [20] (fun s20 wx => Below w.heap.size w wx ∧ ∃ s : Nat, s20 = .int .i64 s ∧ s0 ≤ s ∧ s ≤ r0 ∧ Hid (MidAt xs p s0 r0 s s))
    case first =>
      go_wp2
      go_loopw [20, 21] (fun v q wr => ∃ s r : Nat, v = .int .i64 s ∧ q = .int .i64 r ∧ s0 ≤ s ∧ s ≤ r ∧ r ≤ r0 ∧ Below w.heap.size w wr ∧ Hid (MidAt xs p s0 r0 s r)) (fun v q _ => (intOf q - intOf v).toNat)
      case atStart => exact ⟨s0, r0, rfl, rfl, Nat.le_refl _, q2, Nat.le_refl _, Below.refl _ _, .inl rfl, .inl rfl⟩
      case round =>
        obtain ⟨s, r, rfl, rfl, hs, hsr, hrr, hb, hmd⟩ := hrel
        by_cases hlt : s < r
        · obtain ⟨h, hh, hhi, hhj⟩ : ∃ h : Nat, ((s : Int) + r) / 2 = (h : Int) ∧ s ≤ h ∧ h < r := ⟨(s + r) / 2, by omega, by omega, by omega⟩
          have hi0 : (s : Int) < r := by omega
          have hp1 := HP.out
          have hn1 := HN.out
          obtain ⟨pc, hpc⟩ : ∃ pc, pc = p - h := ⟨_, rfl⟩
          have hpcn : pc < n := by omega
          have hhl : h < xs.length := by have := HL.out; omega
          have hpl : pc < xs.length := by have := HL.out; omega
          have wp : IntKind.i64.wrap ((p : Int) - h) = (pc : Int) := by rw [IntWalk.i64_in _ (by omega)]; omega
          have wp' : (p : Int) - h = (pc : Int) := by omega
          have wp2 : IntKind.i64.wrap (pc : Int) = (pc : Int) := IntWalk.i64_in _ (by omega)
          have wp3 : (0 : Int) ≤ pc := by omega
          obtain ⟨x, hx⟩ : ∃ x, x = xs[h] := ⟨_, rfl⟩
          obtain ⟨u, hu⟩ : ∃ u, u = xs[pc] := ⟨_, rfl⟩
          have k0 : w.cell? ⟨g, h * 2, none⟩ = some (.string x.1) := by rw [hx]; exact hO.out.fst h hhl
          have k1 : w.cell? ⟨g, h * 2 + 1, none⟩ = some (.int .i64 x.2) := by rw [hx]; exact hO.out.snd h hhl
          have k2 : w.cell? ⟨g, pc * 2, none⟩ = some (.string u.1) := by rw [hu]; exact hO.out.fst pc hpl
          have k3 : w.cell? ⟨g, pc * 2 + 1, none⟩ = some (.int .i64 u.2) := by rw [hu]; exact hO.out.snd pc hpl
          have c0 := (hb.cell (p := ⟨g, h * 2, none⟩) hg).trans k0
          have c1 := (hb.cell (p := ⟨g, h * 2 + 1, none⟩) hg).trans k1
          have c2 := (hb.cell (p := ⟨g, pc * 2, none⟩) hg).trans k2
          have c3 := (hb.cell (p := ⟨g, pc * 2 + 1, none⟩) hg).trans k3
          have hgr : g < wr.heap.size := Nat.lt_of_lt_of_le hg hb.size
          have hhn : (h : Int) < n := by omega
          have hhn' : h < n := by omega
          have hpn : (pc : Int) < n := by omega
          have HX := Lib.hid hx
          have HU := Lib.hid hu
          have HPC := Lib.hid hpc
          have HC := fun w' => Lib.hid (of1_any u.1 x.1 u.2 x.2 w')
          clear hx hu hpc hp1 hn1
          go_wp2
          go_region_held3 (fun w' => w'.cell? ⟨g, h * 2, none⟩ = some (.string x.1) ∧ w'.cell? ⟨g, h * 2 + 1, none⟩ = some (.int .i64 x.2) ∧ w'.cell? ⟨g, pc * 2, none⟩ = some (.string u.1) ∧ w'.cell? ⟨g, pc * 2 + 1, none⟩ = some (.int .i64 u.2)) (go_keep) (first | (go_at_call 36; refine (HC _).out.mono ?_; rintro e w2 ⟨rfl, hb2⟩; (have j0 : w2.cell? ⟨g, h * 2, none⟩ = some (.string x.1) := (hb2.cell (p := ⟨g, h * 2, none⟩) hgr).trans c0); (have j1 : w2.cell? ⟨g, h * 2 + 1, none⟩ = some (.int .i64 x.2) := (hb2.cell (p := ⟨g, h * 2 + 1, none⟩) hgr).trans c1); (have j2 : w2.cell? ⟨g, pc * 2, none⟩ = some (.string u.1) := (hb2.cell (p := ⟨g, pc * 2, none⟩) hgr).trans c2); (have j3 : w2.cell? ⟨g, pc * 2 + 1, none⟩ = some (.int .i64 u.2) := (hb2.cell (p := ⟨g, pc * 2 + 1, none⟩) hgr).trans c3)))
          go_wp2
          · have hc : 0 ≤ cmpK ltS u.1 x.1 := by
              have hq : (!decide (cmpK ltS u.1 x.1 < 0)) = true := by assumption
              simpa using hq
            have hcl := cmpK_nneg hc
            go_roundw
            case rel =>
             go_simp
             exact ⟨h + 1, by omega, r, rfl, by omega, by omega, hrr, (bel_drewN hb 1).trans (hb2.mono hb.size), ⟨.inr ⟨x, u, (by rw [HX.out]; exact List.getElem?_eq_getElem hhl), (by rw [HU.out]; have := HPC.out; rw [show p - (h + 1 - 1) = pc by omega]; exact List.getElem?_eq_getElem hpl), hcl⟩, hmd.out.2⟩⟩
            case measure => simp [intOf]; omega
          · have hc : cmpK ltS u.1 x.1 < 0 := by
              have hq : (!decide (cmpK ltS u.1 x.1 < 0)) = false := by assumption
              simpa using hq
            have hcl := cmpK_neg hc
            go_roundw
            case rel =>
             go_simp
             exact ⟨s, rfl, h, rfl, hs, hhi, by omega, (bel_drewN hb 1).trans (hb2.mono hb.size), ⟨hmd.out.1, .inr ⟨u, x, (by rw [HU.out, ← HPC.out]; exact List.getElem?_eq_getElem hpl), (by rw [HX.out]; exact List.getElem?_eq_getElem hhl), hcl⟩⟩⟩
            case measure => simp [intOf]; omega
        · focus
            obtain rfl : s = r := by omega
            have HB := Lib.hid hb
            clear hb
            go_wp2_with fail
            go_meet
            exact ⟨HB.out, s, rfl, hs, hrr, hmd⟩
    case rest =>
          obtain ⟨hb, s, rfl, hs, hrr, hmd⟩ := hcut
          obtain ⟨e, he⟩ : ∃ e, e = n0 - s := ⟨_, rfl⟩
          have hn1 := HN.out
          have hp1 := HP.out
          have hm1 := HM.out
          have hsm : s ≤ m := by omega
          have hme : m ≤ e := by omega
          have heb : e ≤ b := by omega
          have hsmid : s + (e - m) = mid := by omega
          have HCUT : Hid (Cutting ltS xs a m b s e) := by
            refine HR.out.cutting tot_str (by omega) hsm hme heb ?_ ?_
            · rcases hmd.out.1 with h | ⟨x, y, ex, ey, hle⟩
              · rcases HS.out with ⟨h1, h2, h3⟩ | ⟨h1, h2, h3⟩
                · exact .inr (.inl (by omega))
                · exact .inl (by omega)
              · by_cases hs0 : s = s0
                · rcases HS.out with ⟨h1, h2, h3⟩ | ⟨h1, h2, h3⟩
                  · exact .inr (.inl (by omega))
                  · exact .inl (by omega)
                · refine .inr (.inr ⟨x, y, ex, ?_, hle⟩)
                  rw [show e = p - (s - 1) by omega]; exact ey
            · rcases hmd.out.2 with h | ⟨x, y, ex, ey, hle⟩
              · rcases HS.out with ⟨h1, h2, h3⟩ | ⟨h1, h2, h3⟩
                · exact .inr (.inl (by omega))
                · exact .inl (by omega)
              · refine .inr (.inr ⟨x, y, ?_, ey, hle⟩)
                rw [show e - 1 = p - s by omega]; exact ex
          rename ∀ (a : Act) (w : World), Code.wp Try.prog _ _ a w → _ => hk
          refine hk _ _ ?_
          exact tail38 base g n c a m b mid n0 s e xs w _ hbn hn (by omega) (by omega) q7 q8 (by omega) heb (by omega) (by omega) hsm hme q9 (by omega) hsmid HL HCUT (hO.out.later hb) (gb_later (gb_refl w (some g)) hb) ih _ _ _ _ _ _ _ _ _ _ _ _ _ _ _ _ _ _ _ _ _ _ _ _ _ _ _ _ _ _ _ _ _ _ _ _ _ _ _ _ _ _ _ _ _ _ _ _ _ _ _ _ _ _ _ _ _ _ _ _ _ _ _ _ _ _ _ _ _ _ _ _ _ _ _ _ _ _ _ _ _ _ _ _ _ _ _ _ _ _ _ _ _ _ _ _ _ _ _ _ _ _ _ _ _ _ _ _ _ _ _ _ _ _ _ _ _ _ _ _ _ _ _ _ _ _ _ _ _ _ _ _ _ _ _ _ _ _ _ _ _ _ _ _ _ _ _ _ _ _ _ _ _ _ _ _ _ _ _ _ _ _ _ _ _ _ _ _ _ _ _ _ _ _ _ _ _ _ _ _ _ _ _ _ _ _ _ _ _ _ _ _ _ _ _ _ _ _ _ _ _ _ _ _ _ _ _ _ _ _ _ _
/-- the whole symmetric merge -/
theorem sym_all (base g n c : Nat) (hn : n ≤ 1000) : ∀ (k a m b : Nat), b - a ≤ k → a < m → m < b → b ≤ n → SymOk base g n c a m b := by
  intro k
  induction k with
  | zero => intro a m b h1 h2 h3; omega
  | succ k ih =>
    intro a m b hk ham hmb hbn xs w hrow hr
    by_cases h1 : m = a + 1
    · subst h1
      exact sym_up base g n c a b xs w hrow hr hmb hbn hn
    · by_cases h2 : b = m + 1
      · have hr' : Runs ltS xs a m (m + 1) := by rw [← h2]; exact hr
        exact sym_down base g n c a m b xs w hrow hr' h2 ham h1 (by omega) hn
      · have ih' : ∀ a' m' b', a ≤ a' → b' ≤ b → b' - a' < b - a → a' < m' → m' < b' → SymOk base g n c a' m' b' :=
          fun a' m' b' h3 h4 h5 h6 h7 => ih a' m' b' (by omega) h6 h7 (by omega)
        rcases Nat.lt_or_ge ((a + b) / 2) m with h3 | h3
        · exact sym_gen base g n c a m b ((a + b) / 2) ((a + b) / 2 + m - b) ((a + b) / 2) ((a + b) / 2 + m) ((a + b) / 2 + m - 1) xs w hrow hr (by omega) (by omega) hbn hn rfl rfl (by omega) (.inl ⟨h3, by omega, rfl⟩) ih'
        · exact sym_gen base g n c a m b ((a + b) / 2) a m ((a + b) / 2 + m) ((a + b) / 2 + m - 1) xs w hrow hr (by omega) (by omega) hbn hn rfl rfl (by omega) (.inr ⟨h3, rfl, rfl⟩) ih'
end SortS
end Go.Proofs.Ytolfockpiioncaa
