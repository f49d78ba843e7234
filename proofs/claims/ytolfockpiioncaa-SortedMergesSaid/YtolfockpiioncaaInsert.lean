/- slices.SortStableFunc at sorted's pairs: the comparison, insertion sort of a segment. -/
import Derived.Test.YtolfockpiioncaaSortS1
import Derived.Test.YtolfockpiioncaaStable
import Derived.Handy
import Derived.BigRegion
namespace Go.Proofs.Ytolfockpiioncaa
open Go.RowKit
namespace SortS
theorem of1_any (a b : ByteArray) (x y : Int) (w : World) :
    Calls Try.prog 36 #[.agg #[.string a, .int .i64 x], .agg #[.string b, .int .i64 y]] w fun e w' => e = .returned (.int .i64 (cmpK ltS a b)) ∧ Below w.heap.size w w' := by
  go_enter Try.func36, Try.ntmps36
  go_wp2_with (go_at_call 37; refine (cmp_any _ _ _).mono ?_; rintro e w' ⟨rfl, rfl⟩)
  go_ret
  exact ⟨rfl, (((Below.refl _ _).alloc (Nat.le_refl _) _).alloc (by simp) _)⟩

/-- the row of pairs that is sorted in place -/
def Row (base g n c : Nat) (w : World) (l : Ps) : Prop := l.length = n ∧ w.ownsRow base 60 2 (.slice (some ⟨g, 0, none⟩) n c) n (flat l)
theorem Row.fst {base g n c : Nat} {w : World} {l : Ps} (h : Row base g n c w l) (j : Nat) (hj : j < l.length) : w.cell? ⟨g, j * 2, none⟩ = some (.string l[j].1) := by
  rw [h.2.cellAt (j * 2) (by have := h.1; omega)]
  exact flat2_fst kc vc l j hj
theorem Row.snd {base g n c : Nat} {w : World} {l : Ps} (h : Row base g n c w l) (j : Nat) (hj : j < l.length) : w.cell? ⟨g, j * 2 + 1, none⟩ = some (.int .i64 l[j].2) := by
  rw [h.2.cellAt (j * 2 + 1) (by have := h.1; omega)]
  exact flat2_snd kc vc l j hj
theorem Row.later {base g n c : Nat} {w w' : World} {l : Ps} (h : Row base g n c w l) (hb : Below w.heap.size w w') : Row base g n c w' l :=
  ⟨h.1, h.2.kept (row := none) ⟨hb.os, hb.tape, hb.output, hb.size, fun k hk _ => hb.block k hk⟩ (.inr (by simp [Value.ownBlock]))⟩

theorem Row.drew {base g n c : Nat} {w : World} {l : Ps} (h : Row base g n c w l) : Row base g n c w.drew l := ⟨h.1, h.2.drew⟩
theorem Row.drewN {base g n c : Nat} {w : World} {l : Ps} (h : Row base g n c w l) (k : Nat) : Row base g n c (w.drewN k) l := h
theorem Row.lt {base g n c : Nat} {w : World} {l : Ps} (h : Row base g n c w l) : g < w.heap.size := (h.2.lt g rfl).2
theorem Row.frozen {base g n c : Nat} {w : World} {l : Ps} (h : Row base g n c w l) (j : Nat) : w.frozen? ⟨g, j, none⟩ = false := h.2.frozenAt j

theorem Row.set2 {base g n c : Nat} {w : World} {l : Ps} (h : Row base g n c w l) (j : Nat) (hj : j < l.length) (e : ByteArray × Int) :
    Row base g n c ((w.setCell ⟨g, j * 2, none⟩ (.string e.1)).setCell ⟨g, j * 2 + 1, none⟩ (.int .i64 e.2)) (l.set j e) := by
  refine ⟨by simpa using h.1, ?_⟩
  have h1 := (h.2.stored (j * 2) (.string e.1)).1
  have h2 := (h1.stored (j * 2 + 1) (.int .i64 e.2)).1
  unfold flat at *
  rw [flat2_set kc vc l e j hj]
  exact h2
/-- what is done in place: the row, turned; nothing else but what is new -/
def Turned (base g n c : Nat) (R : Ps → Prop) (w : World) (e : Ending) (w' : World) : Prop :=
  e = .returned (.tuple #[]) ∧ (∃ ys, R ys ∧ Row base g n c w' ys) ∧ w.grownBy w' (some g)

set_option maxRecDepth 100000 in
set_option maxHeartbeats 1000000 in
theorem insert_any (base g n c a b : Nat) (xs : Ps) (w : World) (hrow : Row base g n c w xs) (hab : a < b) (hbn : b ≤ n) (hn : n ≤ 1000) :
    Calls Try.prog 52 #[.slice (some ⟨g, 0, none⟩) n c, .int .i64 a, .int .i64 b, .func (.func 36) #[] #[]] w
      (Turned base g n c (fun ys => Seg ltS xs ys a b) w) := by
  have hg := hrow.lt
  have hO := Lib.hid hrow
  clear hrow
  go_enter Try.func52, Try.ntmps52
  go_wp2
  go_loopw [8] (fun v wr => ∃ i : Nat, v = .int .i64 i ∧ a < i ∧ i ≤ b ∧ w.grownBy wr (some g) ∧ Hid (∃ ys, Seg ltS xs ys a i ∧ Row base g n c wr ys)) (fun v _ => (b - intOf v).toNat)
  case atStart => exact ⟨a + 1, by go_num, by omega, by omega, gb_refl _ _, xs, Seg.start xs a (by have := hO.out.1; omega), hO.out⟩
  case round =>
    obtain ⟨i, rfl, hai, hib, hgr, hys⟩ := hrel
    by_cases hlt : i < b
    · go_wp2
      obtain ⟨wo, rfl⟩ : ∃ wo : World, wo = wr := ⟨_, rfl⟩
      go_loopw [9] (fun v wr => ∃ j : Nat, v = .int .i64 j ∧ a ≤ j ∧ j ≤ i ∧ w.grownBy wr (some g) ∧ Hid (∃ ys, Way ltS xs ys a i j ∧ Row base g n c wr ys)) (fun v _ => (intOf v).toNat)
      case atStart =>
        obtain ⟨ys, hs, hrw⟩ := hys.out
        exact ⟨i, rfl, by omega, Nat.le_refl _, hgr, ys, hs.way (by have := hs.len; have := hrw.1; omega), hrw⟩
      case round =>
        obtain ⟨j, rfl, haj, hji, hgr2, hys2⟩ := hrel
        by_cases hja : a < j
        · obtain ⟨jm, hjm⟩ : ∃ jm : Nat, j = jm + 1 := ⟨j - 1, by omega⟩
          obtain ⟨ys, hway, hrw⟩ := hys2.out
          obtain ⟨hjl, _, _⟩ := hway.here
          have hjml : jm < ys.length := by omega
          have hin := hrw.lt
          obtain ⟨x, hx⟩ : ∃ x, x = ys[j] := ⟨_, rfl⟩
          obtain ⟨u, hu⟩ : ∃ u, u = ys[jm] := ⟨_, rfl⟩
          have k0 : wr.cell? ⟨g, j * 2, none⟩ = some (.string x.1) := by rw [hx]; exact hrw.fst j hjl
          have k1 : wr.cell? ⟨g, j * 2 + 1, none⟩ = some (.int .i64 x.2) := by rw [hx]; exact hrw.snd j hjl
          have k2 : wr.cell? ⟨g, jm * 2, none⟩ = some (.string u.1) := by rw [hu]; exact hrw.fst jm hjml
          have k3 : wr.cell? ⟨g, jm * 2 + 1, none⟩ = some (.int .i64 u.2) := by rw [hu]; exact hrw.snd jm hjml
          have HRW := Lib.hid hrw
          have HX := Lib.hid hx
          have HU := Lib.hid hu
          have HJM := Lib.hid hjm
          have hlen : ys.length = n := hrw.1
          have hjln : j < n := by omega
          have hjmln : jm < n := by omega
          clear hrw hx hu hlen hys2 hys
          have hw0 : IntKind.i64.wrap ((j : Int) - 1) = (jm : Int) := by rw [IntWalk.i64_in _ (by omega)]; omega
          have hjn : (j : Int) < n := by omega
          have hjmn : (jm : Int) < n := by omega
          have hjp : (a : Int) < j := by omega
          clear hjm
          have HC := fun w' => Lib.hid (of1_any x.1 u.1 x.2 u.2 w')
          go_wp2
          go_region_held3 (fun w' => w'.cell? ⟨g, j * 2, none⟩ = some (.string x.1) ∧ w'.cell? ⟨g, j * 2 + 1, none⟩ = some (.int .i64 x.2) ∧ w'.cell? ⟨g, jm * 2, none⟩ = some (.string u.1) ∧ w'.cell? ⟨g, jm * 2 + 1, none⟩ = some (.int .i64 u.2)) (go_keep) (first | (go_at_call 36; refine (HC _).out.mono ?_; rintro e w2 ⟨rfl, hb2⟩; (have j0 : w2.cell? ⟨g, j * 2, none⟩ = some (.string x.1) := (hb2.cell (p := ⟨g, j * 2, none⟩) hin).trans k0); (have j1 : w2.cell? ⟨g, j * 2 + 1, none⟩ = some (.int .i64 x.2) := (hb2.cell (p := ⟨g, j * 2 + 1, none⟩) hin).trans k1); (have j2 : w2.cell? ⟨g, jm * 2, none⟩ = some (.string u.1) := (hb2.cell (p := ⟨g, jm * 2, none⟩) hin).trans k2); (have j3 : w2.cell? ⟨g, jm * 2 + 1, none⟩ = some (.int .i64 u.2) := (hb2.cell (p := ⟨g, jm * 2 + 1, none⟩) hin).trans k3)))
          go_wp2
          · have hc : cmpK ltS x.1 u.1 < 0 := by assumption
            have HC2 := Lib.hid (cmpK_neg hc)
            have HR2 := Lib.hid (HRW.out.drew.later hb2)
            have l0 := HR2.out.frozen (j * 2)
            have l1 := HR2.out.frozen (j * 2 + 1)
            have l2 := HR2.out.frozen (jm * 2)
            have l3 := HR2.out.frozen (jm * 2 + 1)
            have HR3 := Lib.hid (HR2.out.set2 j hjl u)
            have hjml2 : jm < (ys.set j u).length := by simpa using hjml
            have m2 := HR3.out.fst jm hjml2
            have m3 := HR3.out.snd jm hjml2
            have hne : j ≠ jm := by have := HJM.out; omega
            rw [List.getElem_set_ne hne, ← HU.out] at m2 m3
            have hjml2' := Lib.hid hjml2
            clear hc HC hne hjml2
            go_region
            go_wp2
            go_roundw
            case rel => exact ⟨jm, rfl, by have := HJM.out; omega, by have := HJM.out; omega, gb_drew (gb_set (gb_set (gb_set (gb_set (gb_later (gb_drew hgr2) hb2) _ _) _ _) _ _) _ _),
              (ys.set j u).set jm x, (by
                have hw := Way.step (j := jm) tot_str (HJM.out ▸ hway) (by have := HJM.out; omega) hjml (by have := HJM.out; omega) (by rw [← HU.out]; have := HC2.out; rw [HX.out] at this; simpa only [HJM.out] using this)
                have e := HJM.out
                have ex := HX.out
                have eu := HU.out
                subst e
                rw [ex, eu]
                exact hw), (HR3.out.set2 jm hjml2'.out x).drew⟩
            case measure => have := HJM.out; simp [intOf]; omega
          · have hc : 0 ≤ cmpK ltS x.1 u.1 := by assumption
            have hn := cmpK_nneg hc
            go_roundw
            case rel => exact ⟨i + 1, by go_num, by omega, by omega, gb_later (gb_drew hgr2) hb2, ys, Way.stop tot_str hway (.inr ⟨by omega, hjl, by
              have e : j - 1 = jm := by have := HJM.out; omega
              simp only [e]
              rw [← HX.out, ← HU.out]; exact hn⟩), HRW.out.drew.later hb2⟩
            case measure => simp [intOf]; omega
        · obtain rfl : j = a := by omega
          obtain ⟨ys, hway, hrw⟩ := hys2.out
          have hd : decide ((j : Int) < j) = false := by simp
          go_wp2
          go_quiet (fail)
          go_wp2
          go_roundw
          case rel => exact ⟨i + 1, by go_num, by omega, by omega, gb_drewN hgr2 _, ys, Way.stop tot_str hway (.inl rfl), hrw.drewN _⟩
          case measure => simp [intOf]; omega
    · obtain rfl : i = b := by omega
      go_wp2
      go_end0
      exact ⟨rfl, hys.out, hgr⟩
end SortS
end Go.Proofs.Ytolfockpiioncaa
