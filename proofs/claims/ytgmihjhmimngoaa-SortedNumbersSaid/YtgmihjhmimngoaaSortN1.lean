/- Package sorted at int64 keys: the contracts of comparing, searching, place. -/
import Derived.Test.YtgmihjhmimngoaaOrd
namespace Go.Proofs.Ytgmihjhmimngoaa
open Go.RowKit
namespace SortN
theorem isNaN_any (a : Int) (w : World) :
    Calls Try.prog 54 #[.int .i64 a] w fun e w' => e = .returned (.bool false) ∧ w = w' := by
  go_enter Try.func54, Try.ntmps54
  go_wp2
  go_ret
  exact ⟨rfl, rfl⟩

theorem cmp_any (a b : Int) (w : World) :
    Calls Try.prog 50 #[.int .i64 a, .int .i64 b] w fun e w' => e = .returned (.int .i64 (cmpK (fun a b : Int => a < b) a b)) ∧ w = w' := by
  by_cases h : a < b
  · rw [cmpK_lt (lt := (fun a b : Int => a < b)) h]
    go_enter Try.func50, Try.ntmps50
    go_wp2_with (go_at_call 54; refine (isNaN_any _ _).mono ?_; rintro e w' ⟨rfl, rfl⟩)
    go_ret
    exact ⟨rfl, rfl⟩
  · by_cases h2 : b < a
    · rw [cmpK_gt (lt := (fun a b : Int => a < b)) h h2]
      go_enter Try.func50, Try.ntmps50
      go_wp2_with (go_at_call 54; refine (isNaN_any _ _).mono ?_; rintro e w' ⟨rfl, rfl⟩)
      go_ret
      exact ⟨rfl, rfl⟩
    · rw [cmpK_eq (lt := (fun a b : Int => a < b)) h h2]
      go_enter Try.func50, Try.ntmps50
      go_wp2_with (go_at_call 54; refine (isNaN_any _ _).mono ?_; rintro e w' ⟨rfl, rfl⟩)
      go_ret
      exact ⟨rfl, rfl⟩

/-- A map's pairs: a key, and what stands there. -/
abbrev Ps := List (Int × (Option Addr × Nat × Nat))
def kc (p : Int × (Option Addr × Nat × Nat)) : Value := .int .i64 p.1
def vc (p : Int × (Option Addr × Nat × Nat)) : Value := .slice p.2.1 p.2.2.1 p.2.2.2
abbrev flat (l : Ps) : List Value := flat2 kc vc l
theorem flat_one (l : Ps) : ∀ u ∈ flat l, u.oneCell' = true := by
  intro u hu
  obtain ⟨p, _, hu⟩ := List.mem_flatMap.1 hu
  simp only [List.mem_cons, List.not_mem_nil, or_false] at hu
  rcases hu with rfl | rfl <;> rfl
def BsPost (l : Ps) (t : Int) (w : World) (e : Ending) (w' : World) : Prop :=
  ∃ i f, e = .returned (.tuple #[.int .i64 (i : Nat), .bool f]) ∧ i ≤ l.length ∧ (f = true → FoundAt (fun a b : Int => a < b) l t i) ∧ (f = false → NoneAt (fun a b : Int => a < b) l t i) ∧ Below w.heap.size w w'

theorem cmp1_any (k t : Int) (v : (Option Addr × Nat × Nat)) (w : World) :
    Calls Try.prog 49 #[.agg #[.int .i64 k, .slice v.1 v.2.1 v.2.2], .int .i64 t] w fun e w' => e = .returned (.int .i64 (cmpK (fun a b : Int => a < b) k t)) ∧ Below w.heap.size w w' := by
  go_enter Try.func49, Try.ntmps49
  go_wp2_with (go_at_call 50; refine (cmp_any _ _ _).mono ?_; rintro e w' ⟨rfl, rfl⟩)
  go_ret
  exact ⟨rfl, (Below.refl _ _).alloc (Nat.le_refl _) _⟩

set_option maxRecDepth 100000 in
set_option maxHeartbeats 400000 in
theorem bs_any (l : Ps) (t : Int) (A : Option Addr) (c : Nat) (w : World) (hn : l.length ≤ 1000) (hr : Rd w w.heap.size 2 A l.length c (flat l)) (hu : Up (fun a b : Int => a < b) l) :
    Calls Try.prog 48 #[.slice A l.length c, .int .i64 t, .func (.func 49) #[] #[]] w (BsPost l t w) := by
  have hU := Lib.hid hu
  have hR := Lib.hid hr
  clear hu hr
  go_enter Try.func48, Try.ntmps48
  go_wp2
  go_loopw [9, 10] (fun a b wr => ∃ i j : Nat, a = .int .i64 i ∧ b = .int .i64 j ∧ i ≤ j ∧ j ≤ l.length ∧ Below w.heap.size w wr ∧
      Hid (Inv (fun a b : Int => a < b) l t i j)) (fun a b _ => (intOf b - intOf a).toNat)
  case atStart => exact ⟨0, l.length, rfl, rfl, Nat.zero_le _, Nat.le_refl _, Below.refl _ _, by intros k hk h; omega, by intros k hk h; omega⟩
  case round =>
    obtain ⟨i, j, rfl, rfl, hij, hj, hb, hin⟩ := hrel
    by_cases hlt : i < j
    · obtain ⟨m, hm, hmi, hmj⟩ : ∃ m : Nat, ((i : Int) + j) / 2 = (m : Int) ∧ i ≤ m ∧ m < j := ⟨(i + j) / 2, by omega, by omega, by omega⟩
      have hi0 : (i : Int) < j := by omega
      have hm1 : (m : Int) < l.length := by omega
      obtain ⟨b, o, rfl, hbw, hcl⟩ := hR.out.at_ (by omega)
      have c0' : wr.cell? ⟨b, o + m * 2, none⟩ = some (.int .i64 (l[m]'(by omega)).1) := (hb.cell (p := ⟨b, o + m * 2, none⟩) hbw).trans (hcl _ _ (flat2_fst kc vc l m (by omega)))
      have c1' : wr.cell? ⟨b, o + m * 2 + 1, none⟩ = some (.slice (l[m]'(by omega)).2.1 (l[m]'(by omega)).2.2.1 (l[m]'(by omega)).2.2.2) := (hb.cell (p := ⟨b, o + m * 2 + 1, none⟩) hbw).trans (hcl _ _ (flat2_snd kc vc l m (by omega)))
      clear hcl
      go_wp2_with (go_at_call 49; refine (cmp1_any _ _ (l[m]'(by omega)).2 _).mono ?_; rintro e w' ⟨rfl, hb'⟩)
      · have hc : cmpK (fun a b : Int => a < b) (l[m]'(by omega)).1 t < 0 := by assumption
        have hb2 := hb.trans (hb'.mono hb.size)
        go_roundw
        case rel => exact ⟨m + 1, j, by go_num, rfl, by omega, hj, hb2, Inv.up tot_int hU.out hin (by omega) (cmpK_neg hc)⟩
        case measure => simp [intOf]; omega
      · have hc : 0 ≤ cmpK (fun a b : Int => a < b) (l[m]'(by omega)).1 t := by assumption
        have hb2 := hb.trans (hb'.mono hb.size)
        go_roundw
        case rel => exact ⟨i, m, rfl, rfl, by omega, by omega, hb2, Inv.down tot_int hU.out hin (by omega) (cmpK_nneg hc)⟩
        case measure => simp [intOf]; omega
    · obtain rfl : i = j := by omega
      have HP : Place (fun a b : Int => a < b) l t i := ⟨hj, hin.1, hin.2⟩
      have HP' := Lib.hid HP
      clear HP hin
      by_cases hil : i < l.length
      · have hm1 : (i : Int) < l.length := by omega
        obtain ⟨b, o, rfl, hbw, hcl⟩ := hR.out.at_ (by omega)
        have c0' : wr.cell? ⟨b, o + i * 2, none⟩ = some (.int .i64 (l[i]'(by omega)).1) := (hb.cell (p := ⟨b, o + i * 2, none⟩) hbw).trans (hcl _ _ (flat2_fst kc vc l i (by omega)))
        have c1' : wr.cell? ⟨b, o + i * 2 + 1, none⟩ = some (.slice (l[i]'(by omega)).2.1 (l[i]'(by omega)).2.2.1 (l[i]'(by omega)).2.2.2) := (hb.cell (p := ⟨b, o + i * 2 + 1, none⟩) hbw).trans (hcl _ _ (flat2_snd kc vc l i (by omega)))
        clear hcl
        go_wp2_with (go_at_call 49; refine (cmp1_any _ _ (l[i]'(by omega)).2 _).mono ?_; rintro e w' ⟨rfl, hb'⟩)
        have hb2 := hb.trans (hb'.mono hb.size)
        go_ret2
        exact ⟨i, _, rfl, hj, fun h => ⟨HP'.out, by omega, (cmpK_zero tot_int).1 (by simpa using h)⟩, fun h => ⟨HP'.out, fun _ h2 => by simp [(cmpK_zero tot_int).2 h2] at h⟩, hb2⟩
      · go_wp2_with fail
        go_ret2
        exact ⟨i, _, rfl, hj, fun h => (by simp at h), fun h => ⟨HP'.out, fun h2 => absurd h2 hil⟩, hb⟩

/-- what place answers -/
def PlPost (l : Ps) (t : Int) (w : World) (e : Ending) (w' : World) : Prop :=
  ∃ i j : Nat, e = .returned (.tuple #[.int .i64 i, .int .i64 j]) ∧ i ≤ j ∧ j ≤ l.length ∧ ((FoundAt (fun a b : Int => a < b) l t i ∧ j = i + 1) ∨ (NoneAt (fun a b : Int => a < b) l t i ∧ j = i)) ∧ Below w.heap.size w w'
theorem place_any (l : Ps) (t : Int) (A : Option Addr) (c : Nat) (w : World) (hn : l.length ≤ 1000) (hr : Rd w w.heap.size 2 A l.length c (flat l)) (hu : Up (fun a b : Int => a < b) l) :
    Calls Try.prog 38 #[.agg #[.slice A l.length c], .int .i64 t] w (PlPost l t w) := by
  have H := Lib.hid hu
  have HR := Lib.hid hr
  clear hu hr
  go_enter Try.func38, Try.ntmps38
  go_wp2_with (go_at_call 48; refine (bs_any l t _ _ _ hn ((HR.out.alloc (Nat.le_refl _) _).more (by simp)) H.out).mono ?_; rintro e w' ⟨i, f, rfl, hi, hf1, hf2, hb'⟩; cases f)
  · have hb2 : Below w.heap.size w w' := ((Below.refl _ _).alloc (Nat.le_refl _) _).trans (hb'.mono (by simp))
    go_ret2
    exact ⟨i, i, rfl, Nat.le_refl _, hi, .inr ⟨hf2 trivial, rfl⟩, hb2⟩
  · have hb2 : Below w.heap.size w w' := ((Below.refl _ _).alloc (Nat.le_refl _) _).trans (hb'.mono (by simp))
    have hi2 := (hf1 trivial).2.1
    go_ret2
    exact ⟨i, i + 1, rfl, by omega, hi2, .inl ⟨hf1 trivial, rfl⟩, hb2⟩

section
variable (l : Ps) (t : Int) (A : Option Addr) (c : Nat) (w : World) (hn : l.length ≤ 1000) (hr : Rd w w.heap.size 2 A l.length c (flat l)) (hu : Up (fun a b : Int => a < b) l) (i : Nat)
include hn hr hu
theorem place_found (hf : FoundAt (fun a b : Int => a < b) l t i) :
    Calls Try.prog 38 #[.agg #[.slice A l.length c], .int .i64 t] w fun e w' => e = .returned (.tuple #[.int .i64 i, .int .i64 ((i : Int) + 1)]) ∧ Below w.heap.size w w' :=
  (place_any l t A c w hn hr hu).mono fun e w' ⟨i', j, he, _, _, hc, hb⟩ => by
    rcases hc with ⟨h1, rfl⟩ | ⟨h1, rfl⟩
    · obtain rfl := h1.uniq tot_int hu hf
      exact ⟨by rw [he]; simp, hb⟩
    · obtain ⟨p, hp, hpt⟩ := hf.mem
      exact absurd hpt (h1.all tot_int hu p hp)
theorem place_none (hf : NoneAt (fun a b : Int => a < b) l t i) :
    Calls Try.prog 38 #[.agg #[.slice A l.length c], .int .i64 t] w fun e w' => e = .returned (.tuple #[.int .i64 i, .int .i64 i]) ∧ Below w.heap.size w w' :=
  (place_any l t A c w hn hr hu).mono fun e w' ⟨i', j, he, _, _, hc, hb⟩ => by
    rcases hc with ⟨h1, rfl⟩ | ⟨h1, rfl⟩
    · obtain ⟨p, hp, hpt⟩ := h1.mem
      exact absurd hpt (hf.all tot_int hu p hp)
    · obtain rfl := h1.uniq hf
      exact ⟨he, hb⟩
end
end SortN
end Go.Proofs.Ytgmihjhmimngoaa
