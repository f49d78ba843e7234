/- The law SortedNumbers: what the walk says. -/
import Derived.Test.YtgmihjhmimngoaaAwake
import Derived.Test.YtgmihjhmimngoaaSortN4
import Derived.Deep.RegionLaw
namespace Go.Proofs.Ytgmihjhmimngoaa
open Go.RowKit
namespace SortN
/-- the last place among the first k where t stands; -1: none -/
def lastAt (l : List Int) (t : Int) : Nat → Int
  | 0 => -1
  | k + 1 => if l[k]? = some t then k else lastAt l t k
theorem lastAt_is {l : List Int} {t : Int} : ∀ {k : Nat} {q : Nat}, lastAt l t k = (q : Int) → q < k ∧ l[q]? = some t
  | 0, q, h => by simp only [lastAt] at h; omega
  | k + 1, q, h => by
    unfold lastAt at h
    split at h
    · rename_i h1
      have : k = q := by omega
      subst this
      exact ⟨by omega, h1⟩
    · have := lastAt_is h
      exact ⟨by omega, this.2⟩
theorem lastAt_cases (l : List Int) (t : Int) : ∀ k, lastAt l t k = -1 ∨ ∃ q : Nat, lastAt l t k = (q : Int)
  | 0 => .inl rfl
  | k + 1 => by
    unfold lastAt
    split
    · exact .inr ⟨k, rfl⟩
    · exact lastAt_cases l t k
theorem lastAt_none {l : List Int} {t : Int} : ∀ {k : Nat}, lastAt l t k = -1 → ∀ q, q < k → l[q]? ≠ some t
  | 0, _, q, h => by omega
  | k + 1, h, q, hq => by
    unfold lastAt at h
    split at h
    · omega
    · rename_i h1
      rcases Nat.lt_or_ge q k with h2 | h2
      · exact lastAt_none h q h2
      · have : q = k := by omega
        subst this; exact h1
theorem lastAt_some {l : List Int} {t : Int} {k q : Nat} (hq : q < k) (h : l[q]? = some t) : ∃ r : Nat, lastAt l t k = (r : Int) := by
  rcases lastAt_cases l t k with h1 | h1
  · exact (lastAt_none h1 q hq h).elim
  · exact h1

/-- what the map has behind the first k -/
structure Good (w : World) (lo : Nat) (l : List Int) (k : Nat) (m : Ps) : Prop where
  up : Up (fun a b : Int => a < b) m
  len : m.length ≤ k
  val : ∀ p ∈ m, ∃ q : Nat, lastAt l p.1 k = (q : Int) ∧ p.2.2.1 = 1 ∧ Rb w lo 1 p.2.1 1 p.2.2.2 [.int .i64 q]
  all : ∀ q, q < k → ∀ t, l[q]? = some t → ∃ p ∈ m, p.1 = t
theorem Good.start (w : World) (lo : Nat) (l : List Int) : Good w lo l 0 [] :=
  ⟨fun i j hi => by simp at hi, by simp, by simp, by intros; omega⟩
theorem Good.step {w w' : World} {lo k : Nat} {l : List Int} {m m' : Ps} {t : Int} {V : Option Addr} {vc : Nat} (h : Good w lo l k m) (ht : l[k]? = some t)
    (hp : PutIs (fun a b : Int => a < b) m t (V, 1, vc) m') (hv : Rb w' lo 1 V 1 vc [.int .i64 k]) (hk : ∀ A c q, Rb w lo 1 A 1 c [.int .i64 q] → Rb w' lo 1 A 1 c [.int .i64 q]) : Good w' lo l (k + 1) m' := by
  obtain ⟨h1, h2, h3⟩ := hp
  refine ⟨h1, by have := h.len; omega, fun p hpm => ?_, fun q hq u hu => ?_⟩
  · rcases (h3 p).1 hpm with rfl | ⟨hpm, hne⟩
    · exact ⟨k, by simp [lastAt, ht], rfl, hv⟩
    · obtain ⟨q, e1, e2, e3⟩ := h.val p hpm
      refine ⟨q, ?_, e2, hk _ _ _ e3⟩
      unfold lastAt
      rw [if_neg (by rw [ht]; intro e; injection e with e; exact hne e.symm)]
      exact e1
  · by_cases hut : u = t
    · exact ⟨(t, V, 1, vc), (h3 _).2 (.inl rfl), hut.symm⟩
    · have hqk : q < k := by
        rcases Nat.lt_or_ge q k with h4 | h4
        · exact h4
        · have : q = k := by omega
          subst this
          rw [ht] at hu; injection hu with hu; exact (hut hu.symm).elim
      obtain ⟨p, hp, hpt⟩ := h.all q hqk u hu
      exact ⟨p, (h3 p).2 (.inr ⟨hp, by rw [hpt]; exact hut⟩), hpt⟩
theorem Good.keep {w w' : World} {lo k : Nat} {l : List Int} {m : Ps} (h : Good w lo l k m) (hk : ∀ A c q, Rb w lo 1 A 1 c [.int .i64 q] → Rb w' lo 1 A 1 c [.int .i64 q]) : Good w' lo l k m :=
  ⟨h.up, h.len, fun p hp => by obtain ⟨q, e1, e2, e3⟩ := h.val p hp; exact ⟨q, e1, e2, hk _ _ _ e3⟩, h.all⟩

/-- a round of the first loop: what the map has behind it -/
theorem round_one {wr w2 : World} {s k : Nat} {l : List Int} {m m' : Ps} {t : Int} {A2 A3 : Option Addr} {c2 c3 : Nat} (hsz : s < wr.heap.size) (hg : Rb wr (s + 1) 2 A2 m.length c2 (flat m) ∧ Good wr (s + 1) l k m)
    (ht : l[k]? = some t) (hp : PutIs (fun a b : Int => a < b) m t (some ⟨wr.heap.size, 0, none⟩, 1, 1) m')
    (hr : Rb w2 ((wr.alloc (.cells #[.int .i64 k] 3)).drew).heap.size 2 A3 m'.length c3 (flat m')) (hb : Below ((wr.alloc (.cells #[.int .i64 k] 3)).drew).heap.size ((wr.alloc (.cells #[.int .i64 k] 3)).drew) w2) (u : Value) :
    Rb (w2.setCell ⟨s, 0, none⟩ u) (s + 1) 2 A3 m'.length c3 (flat m') ∧ Good (w2.setCell ⟨s, 0, none⟩ u) (s + 1) l (k + 1) m' := by
  have hb4 : Below wr.heap.size wr w2 := ((Below.refl _ _).alloc (Nat.le_refl _) _).drew.trans (hb.mono (by simp))
  have hgb : wr.grownBy (w2.setCell ⟨s, 0, none⟩ u) (some s) := gb_set (gb_later (gb_refl _ _) hb4) _ _
  have hgb2 : w2.grownBy (w2.setCell ⟨s, 0, none⟩ u) (some s) := gb_set (gb_refl _ _) _ _
  refine ⟨(hr.mono (by simp; omega)).gb hgb2 (by omega), hg.2.step ht hp ?_ fun A c q h => h.gb hgb (by omega)⟩
  have h1 : Rb ((wr.alloc (.cells #[.int .i64 k] 3)).drew) (s + 1) 1 (some ⟨wr.heap.size, 0, none⟩) 1 1 [.int .i64 k] :=
    ⟨rfl, Nat.le_refl _, by intro u hu; simp at hu; subst hu; rfl, fun _ => ⟨_, _, rfl, hsz, by simp, fun j u hu => by
      rw [World.cell?_drew, Nat.zero_add, cell_of_row _ _ j _ _ (0, 0) (heap_alloc_new _ _)]
      simpa using hu⟩⟩
  exact (h1.later hb).gb hgb2 (by omega)

set_option maxRecDepth 100000 in
set_option maxHeartbeats 2000000 in
theorem numbers_any (l : List Int) (ask : Int) (A : Option Addr) (c : Nat) (w : World) (hr : Rd w w.heap.size 1 A l.length c (l.map (Value.int .i64))) (hc : l.length ≤ maxLen) :
    Calls Try.prog 5 #[.slice A l.length c, .int .i64 ask] w fun e w' => e = .returned (.bool true) ∧ Below w.heap.size w w' := by
  unfold maxLen at hc
  by_cases hbig : l.length ≤ 200
  · have h200 : decide ((200 : Int) < l.length) = false := by simp; omega
    have HR := Lib.hid hr
    clear hr
    go_enter Try.func5, Try.ntmps5
    go_wp2_with (go_at_call 9; refine (SortS.awake_any _).mono ?_; rintro e w1 ⟨rfl, hb1⟩)
    obtain ⟨s, hs⟩ : ∃ s, s = w1.heap.size := ⟨_, rfl⟩
    rw [← hs]
    have hsw : w.heap.size ≤ s := by rw [hs]; exact hb1.size
    have HS := Lib.hid hs
    have hcell : Hid (∀ (wr : World), Below w1.heap.size w1 wr → ∀ k (h : k < l.length), ∃ b o, A = some ⟨b, o, none⟩ ∧ b < s ∧ wr.cell? ⟨b, o + k, none⟩ = some (.int .i64 l[k])) := by
      intro wr hwr k hk
      obtain ⟨b, o, e, hbb, hcl⟩ := HR.out.at_ (by omega)
      have hb1' : b < w1.heap.size := Nat.lt_of_lt_of_le hbb hb1.size
      refine ⟨b, o, e, by rw [hs]; exact hb1', ?_⟩
      exact (hwr.cell (p := ⟨b, o + k, none⟩) hb1').trans ((hb1.cell (p := ⟨b, o + k, none⟩) hbb).trans (hcl k _ (by simp [hk])))
    clear hs
    go_loopw [6, 26] (fun last q wr => ∃ (k : Nat) (m : Ps) (A2 : Option Addr) (c2 : Nat), q = .int .i64 k ∧ k ≤ l.length ∧ last = .int .i64 (lastAt l ask k) ∧ Below w1.heap.size w1 wr ∧ s < wr.heap.size ∧
      wr.cell? ⟨s, 0, none⟩ = some (.slice A2 m.length c2) ∧ wr.frozen? ⟨s, 0, none⟩ = false ∧ Hid (Rb wr (s + 1) 2 A2 m.length c2 (flat m) ∧ Good wr (s + 1) l k m)) (fun _ q _ => (l.length - intOf q).toNat)
    case atStart =>
      refine ⟨0, [], none, 0, rfl, Nat.zero_le _, rfl, (Below.refl _ _).alloc (Nat.le_refl _) _, by rw [HS.out]; simp, by rw [HS.out]; go_simp, by rw [HS.out]; go_simp, ⟨rfl, Nat.le_refl _, by simp [flat, flat2], fun h => absurd h (by simp)⟩, Good.start _ _ _⟩
    case round =>
      obtain ⟨k, m, A2, c2, rfl, hk, rfl, hB, hsz, hmc, hmf, hgood⟩ := hrel
      by_cases hlt : k < l.length
      · obtain ⟨b, o, rfl, hbs, hlc⟩ := hcell.out wr hB k hlt
        have hki : (k : Int) < l.length := by omega
        have hml : m.length ≤ 1000 := by have := hgood.2.len; omega
        obtain ⟨t, ht⟩ : ∃ t, t = l[k] := ⟨_, rfl⟩
        rw [← ht] at hlc
        have HT := Lib.hid ht
        clear ht
        have hbw : b < wr.heap.size := by omega
        have hput := put_any m t (some ⟨wr.heap.size, 0, none⟩, 1, 1) A2 c2 ((wr.alloc (.cells #[.int .i64 k] 3)).drew) hml ((hgood.1.rd.alloc (Nat.le_refl _) _).drew.more (by simp)) hgood.2.up
        have HPUT := Lib.hid hput
        clear hput
        go_wp2
        go_region_law (go_simp; go_at_call 17; refine HPUT.out.mono ?_; rintro e w2 ⟨m', hpi, A3, c3, rfl, hrb3, hb3⟩; (have hb4 : Below wr.heap.size wr w2 := ((Below.refl _ _).alloc (Nat.le_refl _) _).drew.trans (hb3.mono (by simp))); (have i0 : w2.cell? ⟨s, 0, none⟩ = some (.slice A2 m.length c2) := (hb4.cell (p := ⟨s, 0, none⟩) hsz).trans hmc); (have i1 : w2.frozen? ⟨s, 0, none⟩ = false := (hb4.frozen (p := ⟨s, 0, none⟩) hsz).trans hmf); (have i2 : w2.cell? ⟨b, o + k, none⟩ = some (.int .i64 t) := (hb4.cell (p := ⟨b, o + k, none⟩) hbw).trans hlc))
        all_goals
          have HG := Lib.hid (round_one hsz hgood (by rw [HT.out]; simp) hpi hrb3.rb hb3 (.slice A3 m'.length c3))
          have i3 : (w2.setCell ⟨s, 0, none⟩ (.slice A3 m'.length c3)).cell? ⟨b, o + k, none⟩ = some (.int .i64 t) := (World.cell?_setCell_other _ _ _ _ (by intro e; injection e with e; omega)).trans i2
          have HB4 := Lib.hid ((hB.trans (hb4.mono hB.size)).setCell (p := ⟨s, 0, none⟩) (by rw [HS.out]; exact Nat.le_refl _) (.slice A3 m'.length c3))
          have hsz4 : s < w2.heap.size := Nat.lt_of_lt_of_le hsz hb4.size
          by_cases hta : t = ask
          · have HL : Hid ((k : Int) = lastAt l ask (k + 1)) := by
              unfold Hid lastAt
              rw [if_pos (by rw [← hta, HT.out]; simp)]
            have e1 : (t == ask) = true := by simp [hta]
            clear hta
            go_wp2
            go_roundw
            case rel => exact ⟨k + 1, m', A3, c3, by go_num, by omega, by rw [← HL.out], HB4.out, by simpa using hsz4, by go_simp, by go_simp, HG.out⟩
            case measure => simp [intOf]; omega
          · have HL : Hid (lastAt l ask k = lastAt l ask (k + 1)) := by
              unfold Hid
              conv => rhs; unfold lastAt
              rw [if_neg (by rw [List.getElem?_eq_getElem hlt, ← HT.out]; intro e; injection e with e; exact hta e)]
            have e1 : (t == ask) = false := by simp [hta]
            clear hta
            go_wp2
            go_roundw
            case rel => exact ⟨k + 1, m', A3, c3, by go_num, by omega, by rw [← HL.out], HB4.out, by simpa using hsz4, by go_simp, by go_simp, HG.out⟩
            case measure => simp [intOf]; omega
      · obtain rfl : k = l.length := by omega
        have hml : m.length ≤ 1000 := by have := hgood.2.len; omega
        have HM := Lib.hid hgood
        clear hgood
        obtain ⟨f, V, vn, vk, hget, hf⟩ : ∃ (f : Bool) (V : Option Addr) (vn vk : Nat), Hid (∀ W, Below wr.heap.size wr W → Calls Try.prog 18 #[.agg #[.slice A2 m.length c2], .int .i64 ask] W fun e w' => e = .returned (.tuple #[.slice V vn vk, .bool f]) ∧ Below W.heap.size W w') ∧
            ((f = true ∧ ∃ q : Nat, lastAt l ask l.length = (q : Int) ∧ vn = 1 ∧ Rb wr (s + 1) 1 V 1 vk [.int .i64 q] ∧ (∃ p ∈ m, p.1 = ask)) ∨ (f = false ∧ lastAt l ask l.length = -1 ∧ V = none ∧ vn = 0 ∧ vk = 0 ∧ (∀ p ∈ m, p.1 ≠ ask))) := by
          rcases lastAt_cases l ask l.length with h | ⟨q, h⟩
          · have hno : ∀ p ∈ m, p.1 ≠ ask := by
              intro p hp e
              obtain ⟨q, e1, _⟩ := HM.out.2.val p hp
              rw [e, h] at e1; omega
            exact ⟨false, none, 0, 0, fun W hW => get_not m ask A2 c2 W hml (HM.out.1.later hW).rd HM.out.2.up hno, .inr ⟨rfl, h, rfl, rfl, rfl, hno⟩⟩
          · obtain ⟨hql, hq⟩ := lastAt_is h
            obtain ⟨p, hp, hpa⟩ := HM.out.2.all q hql ask hq
            obtain ⟨q', e1, e2, e3⟩ := HM.out.2.val p hp
            rw [hpa, h] at e1
            have : q = q' := by omega
            subst this
            obtain ⟨pk, V, vn, vk⟩ := p
            dsimp only at hpa e2 e3
            subst hpa; subst e2
            exact ⟨true, V, 1, vk, fun W hW => get_has m pk (V, 1, vk) A2 c2 W hml (HM.out.1.later hW).rd HM.out.2.up hp, .inl ⟨rfl, q, h, rfl, e3, _, hp, rfl⟩⟩
        have hz0 : (0 : Int) ≤ l.length := by omega
        clear hk
        rcases hf with ⟨rfl, q, hq, rfl, hrbv, hin⟩ | ⟨rfl, hq, rfl, rfl, rfl, hin⟩
        · obtain ⟨bv, ov, rfl, _, hbv, hcv⟩ := hrbv.at_ (by omega)
          have kv : wr.cell? ⟨bv, ov, none⟩ = some (.int .i64 q) := by simpa using hcv 0 _ rfl
          rw [hq]
          have HIN := Lib.hid hin
          clear hq hrbv hcv hin
          go_wp2_with (go_at_call 18; refine (hget.out _ (Below.refl _ _)).mono ?_; rintro e w5 ⟨rfl, hb5⟩; (have kv5 : w5.cell? ⟨bv, ov, none⟩ = some (.int .i64 q) := (hb5.cell (p := ⟨bv, ov, none⟩) hbv).trans kv); (have i0 : w5.cell? ⟨s, 0, none⟩ = some (.slice A2 m.length c2) := (hb5.cell (p := ⟨s, 0, none⟩) hsz).trans hmc))
          have HB5 := Lib.hid (hb5)
          have hB5 : Below w.heap.size w w5 := hb1.trans ((hB.trans (hb5.mono hB.size)).mono hb1.size)
          have HM5 := Lib.hid (And.intro (HM.out.1.later hb5) (HM.out.2.keep fun A c q h => h.later hb5))
          refine (all_any m A2 c2 w5 hml HM5.out.1.rd).mono ?_
          rintro e w6 ⟨A6, c6, rfl, hown6, hb6⟩
          have i6 : w6.cell? ⟨s, 0, none⟩ = some (.slice A2 m.length c2) := (hb6.cell (p := ⟨s, 0, none⟩) (Nat.lt_of_lt_of_le hsz hb5.size)).trans i0
          have HM6 := Lib.hid (And.intro (HM5.out.1.later hb6) (HM5.out.2.keep fun A c q h => h.later hb6))
          have H6 := Lib.hid hown6.rd
          have hs6 : s < w6.heap.size := Nat.lt_of_lt_of_le (Nat.lt_of_lt_of_le hsz hb5.size) hb6.size
          have hB6 : Below w.heap.size w w6 := hB5.trans (hb6.mono hB5.size)
          have hcell6 : Hid (∀ (wr : World), Below w6.heap.size w6 wr → ∀ k (h : k < l.length), ∃ b o, A = some ⟨b, o, none⟩ ∧ wr.cell? ⟨b, o + k, none⟩ = some (.int .i64 l[k])) := by
            intro wx hwx k hk
            obtain ⟨b, o, e, hb, hc⟩ := hcell.out _ ((hB.trans (HB5.out.mono hB.size)).trans (hb6.mono (Nat.le_trans hB.size HB5.out.size))) k hk
            exact ⟨b, o, e, (hwx.cell (p := ⟨b, o + k, none⟩) (show b < w6.heap.size by omega)).trans hc⟩
          clear hown6 hb6 hb5 kv kv5 i0
          go_wp2
          go_loopw [83] (fun q wx => ∃ k : Nat, q = .int .i64 k ∧ k ≤ m.length ∧ Below w6.heap.size w6 wx) (fun q _ => (m.length - intOf q).toNat)
          case atStart => exact ⟨0, rfl, Nat.zero_le _, Below.refl _ _⟩
          case round =>
            obtain ⟨k, rfl, hkm, hB7⟩ := hrel
            obtain ⟨wx, rfl⟩ : ∃ wx : World, wx = wr := ⟨_, rfl⟩
            by_cases hkl : k < m.length
            · obtain ⟨y, V3, n3, c3, hmk⟩ : ∃ y V3 n3 c3, m[k] = (y, V3, n3, c3) := ⟨_, _, _, _, rfl⟩
              obtain ⟨bb, oo, rfl, hbb, hcc⟩ := H6.out.at_ (by omega)
              obtain ⟨r, hr1, hr2, hr3⟩ := HM6.out.2.val m[k] (List.getElem_mem hkl)
              have k0 : wx.cell? ⟨bb, oo + k * 2, none⟩ = some (.int .i64 y) := by
                have := hcc _ _ (flat2_fst kc vc m k hkl)
                rw [hmk, kc] at this
                exact (hB7.cell (p := ⟨bb, oo + k * 2, none⟩) hbb).trans this
              have k1 : wx.cell? ⟨bb, oo + k * 2 + 1, none⟩ = some (.slice V3 n3 c3) := by
                have := hcc _ _ (flat2_snd kc vc m k hkl)
                rw [hmk, vc] at this
                exact (hB7.cell (p := ⟨bb, oo + k * 2 + 1, none⟩) hbb).trans this
              rw [hmk] at hr1 hr2 hr3
              dsimp only at hr1 hr2 hr3
              subst hr2
              obtain ⟨hrl, hrk⟩ := lastAt_is hr1
              obtain ⟨b3, o3, rfl, _, hb3, hc3⟩ := hr3.at_ (by omega)
              have k2 : wx.cell? ⟨b3, o3, none⟩ = some (.int .i64 r) := (hB7.cell (p := ⟨b3, o3, none⟩) hb3).trans (by simpa using hc3 0 _ rfl)
              obtain ⟨bl, ol, rfl, hlc⟩ := hcell6.out wx hB7 r hrl
              have hlr : l[r] = y := by
                rw [List.getElem?_eq_getElem hrl] at hrk
                injection hrk with hrk
              rw [hlr] at hlc
              have hri : (r : Int) < l.length := by omega
              have hki : (k : Int) < m.length := by omega
              have HMK := Lib.hid hmk
              clear hmk hr1 hr3 hrk hc3 hlr
              by_cases hk0 : k = 0
              · have e1 : decide ((0 : Int) < (k : Int)) = false := by simp; omega
                have e2 : decide (0 < k) = false := by simp; omega
                clear hk0 hcell hcc
                go_wp2
                go_quiet (fail)
                go_wp2
                go_roundw
                case rel => exact ⟨k + 1, by go_num, by omega, bel_drewN hB7 _⟩
                case measure => simp [intOf]; omega
              · obtain ⟨km, hkm1⟩ : ∃ km, km + 1 = k := ⟨k - 1, by omega⟩
                obtain ⟨x, V4, n4, c4, hmk4⟩ : ∃ y V3 n3 c3, m[km] = (y, V3, n3, c3) := ⟨_, _, _, _, rfl⟩
                have k5 : wx.cell? ⟨bb, oo + km * 2, none⟩ = some (.int .i64 x) := by
                  have := hcc _ _ (flat2_fst kc vc m km (by omega))
                  rw [hmk4, kc] at this
                  exact (hB7.cell (p := ⟨bb, oo + km * 2, none⟩) hbb).trans this
                have hxy : x < y := by
                  have := HM6.out.2.up km k (by omega) hkl (by omega)
                  rw [hmk4, HMK.out] at this
                  exact this
                have e0 : decide (y ≤ x) = false := by simp; omega
                have e1 : decide ((0 : Int) < (k : Int)) = true := by simp; omega
                have e2 : decide (0 < k) = true := by simp; omega
                have hw : IntKind.i64.wrap ((k : Int) - 1) = (km : Int) := by rw [IntWalk.i64_in _ (by omega)]; omega
                have hkm2 : (km : Int) < m.length := by omega
                clear hk0 hcell hcc hkm1 hxy hmk4
                go_wp2
                go_quiet (fail)
                go_wp2
                go_roundw
                case rel => exact ⟨k + 1, by go_num, by omega, bel_drewN hB7 _⟩
                case measure => simp [intOf]; omega
            · obtain rfl : k = m.length := by omega
              go_wp2
              obtain ⟨wo, rfl⟩ : ∃ wo : World, wo = wx := ⟨_, rfl⟩
              go_loopw [132] (fun q wy => ∃ k : Nat, q = .int .i64 k ∧ k ≤ l.length ∧ Below w6.heap.size w6 wy) (fun q _ => (l.length - intOf q).toNat)
              case atStart => exact ⟨0, rfl, Nat.zero_le _, hB7⟩
              case round =>
                clear hB7
                obtain ⟨k, rfl, hkm, hB8⟩ := hrel
                obtain ⟨wy, rfl⟩ : ∃ wy : World, wy = wr := ⟨_, rfl⟩
                have i8 : wy.cell? ⟨s, 0, none⟩ = some (.slice A2 m.length c2) := (hB8.cell (p := ⟨s, 0, none⟩) hs6).trans i6
                by_cases hkl : k < l.length
                · obtain ⟨bl, ol, rfl, hlc⟩ := hcell6.out wy hB8 k hkl
                  obtain ⟨t, ht⟩ : ∃ t, t = l[k] := ⟨_, rfl⟩
                  rw [← ht] at hlc
                  obtain ⟨p, hp, hpt⟩ := HM6.out.2.all k hkl t (by rw [ht]; simp)
                  obtain ⟨pk, V3, n3, c3⟩ := p
                  dsimp only at hpt
                  subst hpt
                  have HG8 := Lib.hid (get_has m pk (V3, n3, c3) A2 c2 wy.drew hml ((HM6.out.1.later hB8).rd.drew.more (Nat.le_refl _)) HM6.out.2.up hp)
                  have hki : (k : Int) < l.length := by omega
                  have hbl : bl < wy.heap.size := World.block_lt_of_cell? wy _ hlc
                  have hs8 : s < wy.heap.size := Nat.lt_of_lt_of_le hs6 hB8.size
                  clear ht hp hcell
                  go_wp2
                  go_region_held3 (fun W => W.cell? ⟨s, 0, none⟩ = some (.slice A2 m.length c2) ∧ W.cell? ⟨bl, ol + k, none⟩ = some (.int .i64 pk)) (go_keep)
                    (first | (go_at_call 18; refine HG8.out.mono ?_; rintro e w9 ⟨rfl, hb9⟩; (have j0 : w9.cell? ⟨s, 0, none⟩ = some (.slice A2 m.length c2) := (hb9.cell (p := ⟨s, 0, none⟩) hs8).trans i8); (have j1 : w9.cell? ⟨bl, ol + k, none⟩ = some (.int .i64 pk) := (hb9.cell (p := ⟨bl, ol + k, none⟩) hbl).trans hlc)))
                  go_wp2
                  go_roundw
                  case rel => exact ⟨k + 1, by go_num, by omega, (hB8.drew).trans (hb9.mono hB8.size)⟩
                  case measure => simp [intOf]; omega
                · obtain rfl : k = l.length := by omega
                  clear hcell
                  have HD := Lib.hid (del_any m ask A2 c2 wy hml (HM6.out.1.later hB8).rd HM6.out.2.up)
                  go_wp2_with (first
                    | (go_at_call 20; refine HD.out.mono ?_; rintro e w9 ⟨m9, hd9, A9, c9, rfl, hr9, hb9⟩)
                    | (go_at_call 21; refine (len_any _ _ _ _).mono ?_; rintro e w10 ⟨rfl, hb10⟩))
                  go_ret
                  have hl9 := del_len tot_int HM6.out.2.up hd9 HIN.out
                  have hB9 : Below w.heap.size w wy := hB6.trans (hB8.mono hB6.size)
                  have hB10 : Below w.heap.size w w9 := hB9.trans (hb9.mono hB9.size)
                  refine ⟨?_, hB10.trans (hb10.mono hB10.size)⟩
                  show Ending.returned (.bool _) = Ending.returned (.bool true)
                  simp
                  omega
        · rw [hq]
          have HIN := Lib.hid hin
          clear hq hin
          go_wp2_with (go_at_call 18; refine (hget.out _ (Below.refl _ _)).mono ?_; rintro e w5 ⟨rfl, hb5⟩; (have i0 : w5.cell? ⟨s, 0, none⟩ = some (.slice A2 m.length c2) := (hb5.cell (p := ⟨s, 0, none⟩) hsz).trans hmc))
          have HB5 := Lib.hid (hb5)
          have hB5 : Below w.heap.size w w5 := hb1.trans ((hB.trans (hb5.mono hB.size)).mono hb1.size)
          have HM5 := Lib.hid (And.intro (HM.out.1.later hb5) (HM.out.2.keep fun A c q h => h.later hb5))
          refine (all_any m A2 c2 w5 hml HM5.out.1.rd).mono ?_
          rintro e w6 ⟨A6, c6, rfl, hown6, hb6⟩
          have i6 : w6.cell? ⟨s, 0, none⟩ = some (.slice A2 m.length c2) := (hb6.cell (p := ⟨s, 0, none⟩) (Nat.lt_of_lt_of_le hsz hb5.size)).trans i0
          have HM6 := Lib.hid (And.intro (HM5.out.1.later hb6) (HM5.out.2.keep fun A c q h => h.later hb6))
          have H6 := Lib.hid hown6.rd
          have hs6 : s < w6.heap.size := Nat.lt_of_lt_of_le (Nat.lt_of_lt_of_le hsz hb5.size) hb6.size
          have hB6 : Below w.heap.size w w6 := hB5.trans (hb6.mono hB5.size)
          have hcell6 : Hid (∀ (wr : World), Below w6.heap.size w6 wr → ∀ k (h : k < l.length), ∃ b o, A = some ⟨b, o, none⟩ ∧ wr.cell? ⟨b, o + k, none⟩ = some (.int .i64 l[k])) := by
            intro wx hwx k hk
            obtain ⟨b, o, e, hb, hc⟩ := hcell.out _ ((hB.trans (HB5.out.mono hB.size)).trans (hb6.mono (Nat.le_trans hB.size HB5.out.size))) k hk
            exact ⟨b, o, e, (hwx.cell (p := ⟨b, o + k, none⟩) (show b < w6.heap.size by omega)).trans hc⟩
          clear hown6 hb6 hb5 i0
          go_wp2
          go_loopw [83] (fun q wx => ∃ k : Nat, q = .int .i64 k ∧ k ≤ m.length ∧ Below w6.heap.size w6 wx) (fun q _ => (m.length - intOf q).toNat)
          case atStart => exact ⟨0, rfl, Nat.zero_le _, Below.refl _ _⟩
          case round =>
            obtain ⟨k, rfl, hkm, hB7⟩ := hrel
            obtain ⟨wx, rfl⟩ : ∃ wx : World, wx = wr := ⟨_, rfl⟩
            by_cases hkl : k < m.length
            · obtain ⟨y, V3, n3, c3, hmk⟩ : ∃ y V3 n3 c3, m[k] = (y, V3, n3, c3) := ⟨_, _, _, _, rfl⟩
              obtain ⟨bb, oo, rfl, hbb, hcc⟩ := H6.out.at_ (by omega)
              obtain ⟨r, hr1, hr2, hr3⟩ := HM6.out.2.val m[k] (List.getElem_mem hkl)
              have k0 : wx.cell? ⟨bb, oo + k * 2, none⟩ = some (.int .i64 y) := by
                have := hcc _ _ (flat2_fst kc vc m k hkl)
                rw [hmk, kc] at this
                exact (hB7.cell (p := ⟨bb, oo + k * 2, none⟩) hbb).trans this
              have k1 : wx.cell? ⟨bb, oo + k * 2 + 1, none⟩ = some (.slice V3 n3 c3) := by
                have := hcc _ _ (flat2_snd kc vc m k hkl)
                rw [hmk, vc] at this
                exact (hB7.cell (p := ⟨bb, oo + k * 2 + 1, none⟩) hbb).trans this
              rw [hmk] at hr1 hr2 hr3
              dsimp only at hr1 hr2 hr3
              subst hr2
              obtain ⟨hrl, hrk⟩ := lastAt_is hr1
              obtain ⟨b3, o3, rfl, _, hb3, hc3⟩ := hr3.at_ (by omega)
              have k2 : wx.cell? ⟨b3, o3, none⟩ = some (.int .i64 r) := (hB7.cell (p := ⟨b3, o3, none⟩) hb3).trans (by simpa using hc3 0 _ rfl)
              obtain ⟨bl, ol, rfl, hlc⟩ := hcell6.out wx hB7 r hrl
              have hlr : l[r] = y := by
                rw [List.getElem?_eq_getElem hrl] at hrk
                injection hrk with hrk
              rw [hlr] at hlc
              have hri : (r : Int) < l.length := by omega
              have hki : (k : Int) < m.length := by omega
              have HMK := Lib.hid hmk
              clear hmk hr1 hr3 hrk hc3 hlr
              by_cases hk0 : k = 0
              · have e1 : decide ((0 : Int) < (k : Int)) = false := by simp; omega
                have e2 : decide (0 < k) = false := by simp; omega
                clear hk0 hcell hcc
                go_wp2
                go_quiet (fail)
                go_wp2
                go_roundw
                case rel => exact ⟨k + 1, by go_num, by omega, bel_drewN hB7 _⟩
                case measure => simp [intOf]; omega
              · obtain ⟨km, hkm1⟩ : ∃ km, km + 1 = k := ⟨k - 1, by omega⟩
                obtain ⟨x, V4, n4, c4, hmk4⟩ : ∃ y V3 n3 c3, m[km] = (y, V3, n3, c3) := ⟨_, _, _, _, rfl⟩
                have k5 : wx.cell? ⟨bb, oo + km * 2, none⟩ = some (.int .i64 x) := by
                  have := hcc _ _ (flat2_fst kc vc m km (by omega))
                  rw [hmk4, kc] at this
                  exact (hB7.cell (p := ⟨bb, oo + km * 2, none⟩) hbb).trans this
                have hxy : x < y := by
                  have := HM6.out.2.up km k (by omega) hkl (by omega)
                  rw [hmk4, HMK.out] at this
                  exact this
                have e0 : decide (y ≤ x) = false := by simp; omega
                have e1 : decide ((0 : Int) < (k : Int)) = true := by simp; omega
                have e2 : decide (0 < k) = true := by simp; omega
                have hw : IntKind.i64.wrap ((k : Int) - 1) = (km : Int) := by rw [IntWalk.i64_in _ (by omega)]; omega
                have hkm2 : (km : Int) < m.length := by omega
                clear hk0 hcell hcc hkm1 hxy hmk4
                go_wp2
                go_quiet (fail)
                go_wp2
                go_roundw
                case rel => exact ⟨k + 1, by go_num, by omega, bel_drewN hB7 _⟩
                case measure => simp [intOf]; omega
            · obtain rfl : k = m.length := by omega
              go_wp2
              obtain ⟨wo, rfl⟩ : ∃ wo : World, wo = wx := ⟨_, rfl⟩
              go_loopw [132] (fun q wy => ∃ k : Nat, q = .int .i64 k ∧ k ≤ l.length ∧ Below w6.heap.size w6 wy) (fun q _ => (l.length - intOf q).toNat)
              case atStart => exact ⟨0, rfl, Nat.zero_le _, hB7⟩
              case round =>
                clear hB7
                obtain ⟨k, rfl, hkm, hB8⟩ := hrel
                obtain ⟨wy, rfl⟩ : ∃ wy : World, wy = wr := ⟨_, rfl⟩
                have i8 : wy.cell? ⟨s, 0, none⟩ = some (.slice A2 m.length c2) := (hB8.cell (p := ⟨s, 0, none⟩) hs6).trans i6
                by_cases hkl : k < l.length
                · obtain ⟨bl, ol, rfl, hlc⟩ := hcell6.out wy hB8 k hkl
                  obtain ⟨t, ht⟩ : ∃ t, t = l[k] := ⟨_, rfl⟩
                  rw [← ht] at hlc
                  obtain ⟨p, hp, hpt⟩ := HM6.out.2.all k hkl t (by rw [ht]; simp)
                  obtain ⟨pk, V3, n3, c3⟩ := p
                  dsimp only at hpt
                  subst hpt
                  have HG8 := Lib.hid (get_has m pk (V3, n3, c3) A2 c2 wy.drew hml ((HM6.out.1.later hB8).rd.drew.more (Nat.le_refl _)) HM6.out.2.up hp)
                  have hki : (k : Int) < l.length := by omega
                  have hbl : bl < wy.heap.size := World.block_lt_of_cell? wy _ hlc
                  have hs8 : s < wy.heap.size := Nat.lt_of_lt_of_le hs6 hB8.size
                  clear ht hp hcell
                  go_wp2
                  go_region_held3 (fun W => W.cell? ⟨s, 0, none⟩ = some (.slice A2 m.length c2) ∧ W.cell? ⟨bl, ol + k, none⟩ = some (.int .i64 pk)) (go_keep)
                    (first | (go_at_call 18; refine HG8.out.mono ?_; rintro e w9 ⟨rfl, hb9⟩; (have j0 : w9.cell? ⟨s, 0, none⟩ = some (.slice A2 m.length c2) := (hb9.cell (p := ⟨s, 0, none⟩) hs8).trans i8); (have j1 : w9.cell? ⟨bl, ol + k, none⟩ = some (.int .i64 pk) := (hb9.cell (p := ⟨bl, ol + k, none⟩) hbl).trans hlc)))
                  go_wp2
                  go_roundw
                  case rel => exact ⟨k + 1, by go_num, by omega, (hB8.drew).trans (hb9.mono hB8.size)⟩
                  case measure => simp [intOf]; omega
                · obtain rfl : k = l.length := by omega
                  clear hcell
                  have HD := Lib.hid (del_any m ask A2 c2 wy hml (HM6.out.1.later hB8).rd HM6.out.2.up)
                  go_wp2_with (first
                    | (go_at_call 20; refine HD.out.mono ?_; rintro e w9 ⟨m9, hd9, A9, c9, rfl, hr9, hb9⟩)
                    | (go_at_call 21; refine (len_any _ _ _ _).mono ?_; rintro e w10 ⟨rfl, hb10⟩))
                  go_ret
                  have hl9 := del_len_not tot_int HM6.out.2.up hd9 HIN.out
                  have hB9 : Below w.heap.size w wy := hB6.trans (hB8.mono hB6.size)
                  have hB10 : Below w.heap.size w w9 := hB9.trans (hb9.mono hB9.size)
                  refine ⟨?_, hB10.trans (hb10.mono hB10.size)⟩
                  show Ending.returned (.bool _) = Ending.returned (.bool true)
                  simp
                  omega
  · have h200 : decide ((200 : Int) < l.length) = true := by simp; omega
    go_enter Try.func5, Try.ntmps5
    go_wp2_with (first
      | (go_at_call 9; refine (SortS.awake_any w).mono ?_; rintro e w1 ⟨rfl, hb1⟩)
      | (go_at_call 9; refine (SortS.awake_any w1).mono ?_; rintro e w2 ⟨rfl, hb2⟩))
    go_ret
    exact ⟨rfl, hb1.trans (hb2.mono hb1.size)⟩
end SortN
end Go.Proofs.Ytgmihjhmimngoaa
