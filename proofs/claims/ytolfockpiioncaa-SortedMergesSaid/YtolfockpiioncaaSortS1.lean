/- Package sorted at string keys: the contracts of comparing, searching, place. -/
import Derived.Test.YtolfockpiioncaaOrd
namespace Go.Proofs.Ytolfockpiioncaa
open Go.RowKit
namespace SortS
theorem isNaN_any (a : ByteArray) (w : World) :
    Calls Try.prog 47 #[.string a] w fun e w' => e = .returned (.bool false) ∧ w = w' := by
  go_enter Try.func47, Try.ntmps47
  go_wp2
  go_ret
  exact ⟨rfl, rfl⟩

theorem cmp_any (a b : ByteArray) (w : World) :
    Calls Try.prog 37 #[.string a, .string b] w fun e w' => e = .returned (.int .i64 (cmpK ltS a b)) ∧ w = w' := by
  cases h : Op.bytesLess a.toList b.toList
  · have hn : ¬ ltS a b := by unfold ltS; rw [h]; exact Bool.noConfusion
    cases h2 : (a.toList == b.toList)
    · have hg : ltS b a := by
        rcases tot_str.tri a b with h3 | h3 | h3
        · exact absurd h3 hn
        · subst h3; simp at h2
        · exact h3
      rw [cmpK_gt hn hg]
      have h3 : (!a.toList == b.toList) = true := by simp [h2]
      clear hn hg
      go_enter Try.func37, Try.ntmps37
      go_wp2_with (go_at_call 47; refine (isNaN_any _ _).mono ?_; rintro e w' ⟨rfl, rfl⟩)
      go_ret
      exact ⟨rfl, rfl⟩
    · have hab : a = b := bytes_ext (by simpa using h2)
      rw [cmpK_eq hn (hab ▸ tot_str.irr a)]
      have h3 : (!a.toList == b.toList) = false := by simp [h2]
      clear hn hab
      go_enter Try.func37, Try.ntmps37
      go_wp2_with (go_at_call 47; refine (isNaN_any _ _).mono ?_; rintro e w' ⟨rfl, rfl⟩)
      go_ret
      exact ⟨rfl, rfl⟩
  · have hn : ltS a b := h
    rw [cmpK_lt hn]
    clear hn
    go_enter Try.func37, Try.ntmps37
    go_wp2_with (go_at_call 47; refine (isNaN_any _ _).mono ?_; rintro e w' ⟨rfl, rfl⟩)
    go_ret
    exact ⟨rfl, rfl⟩

/-- A map's pairs: a key, and what stands there. -/
abbrev Ps := List (ByteArray × Int)
def kc (p : ByteArray × Int) : Value := .string p.1
def vc (p : ByteArray × Int) : Value := .int .i64 p.2
abbrev flat (l : Ps) : List Value := flat2 kc vc l
theorem flat_one (l : Ps) : ∀ u ∈ flat l, u.oneCell' = true := by
  intro u hu
  obtain ⟨p, _, hu⟩ := List.mem_flatMap.1 hu
  simp only [List.mem_cons, List.not_mem_nil, or_false] at hu
  rcases hu with rfl | rfl <;> rfl
def BsPost (l : Ps) (t : ByteArray) (w : World) (e : Ending) (w' : World) : Prop :=
  ∃ i f, e = .returned (.tuple #[.int .i64 (i : Nat), .bool f]) ∧ i ≤ l.length ∧ (f = true → FoundAt ltS l t i) ∧ (f = false → NoneAt ltS l t i) ∧ Below w.heap.size w w'

theorem cmp1_any (k t : ByteArray) (v : Int) (w : World) :
    Calls Try.prog 44 #[.agg #[.string k, .int .i64 v], .string t] w fun e w' => e = .returned (.int .i64 (cmpK ltS k t)) ∧ Below w.heap.size w w' := by
  go_enter Try.func44, Try.ntmps44
  go_wp2_with (go_at_call 37; refine (cmp_any _ _ _).mono ?_; rintro e w' ⟨rfl, rfl⟩)
  go_ret
  exact ⟨rfl, (Below.refl _ _).alloc (Nat.le_refl _) _⟩

set_option maxRecDepth 100000 in
set_option maxHeartbeats 400000 in
theorem bs_any (l : Ps) (t : ByteArray) (A : Option Addr) (c : Nat) (w : World) (hn : l.length ≤ 1000) (hr : Rd w w.heap.size 2 A l.length c (flat l)) (hu : Up ltS l) :
    Calls Try.prog 43 #[.slice A l.length c, .string t, .func (.func 44) #[] #[]] w (BsPost l t w) := by
  have hU := Lib.hid hu
  have hR := Lib.hid hr
  clear hu hr
  go_enter Try.func43, Try.ntmps43
  go_wp2
  go_loopw [9, 10] (fun a b wr => ∃ i j : Nat, a = .int .i64 i ∧ b = .int .i64 j ∧ i ≤ j ∧ j ≤ l.length ∧ Below w.heap.size w wr ∧
      Hid (Inv ltS l t i j)) (fun a b _ => (intOf b - intOf a).toNat)
  case atStart => exact ⟨0, l.length, rfl, rfl, Nat.zero_le _, Nat.le_refl _, Below.refl _ _, by intros k hk h; omega, by intros k hk h; omega⟩
  case round =>
    obtain ⟨i, j, rfl, rfl, hij, hj, hb, hin⟩ := hrel
    by_cases hlt : i < j
    · obtain ⟨m, hm, hmi, hmj⟩ : ∃ m : Nat, ((i : Int) + j) / 2 = (m : Int) ∧ i ≤ m ∧ m < j := ⟨(i + j) / 2, by omega, by omega, by omega⟩
      have hi0 : (i : Int) < j := by omega
      have hm1 : (m : Int) < l.length := by omega
      obtain ⟨b, o, rfl, hbw, hcl⟩ := hR.out.at_ (by omega)
      have c0' : wr.cell? ⟨b, o + m * 2, none⟩ = some (.string (l[m]'(by omega)).1) := (hb.cell (p := ⟨b, o + m * 2, none⟩) hbw).trans (hcl _ _ (flat2_fst kc vc l m (by omega)))
      have c1' : wr.cell? ⟨b, o + m * 2 + 1, none⟩ = some (.int .i64 (l[m]'(by omega)).2) := (hb.cell (p := ⟨b, o + m * 2 + 1, none⟩) hbw).trans (hcl _ _ (flat2_snd kc vc l m (by omega)))
      clear hcl
      go_wp2_with (go_at_call 44; refine (cmp1_any _ _ (l[m]'(by omega)).2 _).mono ?_; rintro e w' ⟨rfl, hb'⟩)
      · have hc : cmpK ltS (l[m]'(by omega)).1 t < 0 := by assumption
        have hb2 := hb.trans (hb'.mono hb.size)
        go_roundw
        case rel => exact ⟨m + 1, j, by go_num, rfl, by omega, hj, hb2, Inv.up tot_str hU.out hin (by omega) (cmpK_neg hc)⟩
        case measure => simp [intOf]; omega
      · have hc : 0 ≤ cmpK ltS (l[m]'(by omega)).1 t := by assumption
        have hb2 := hb.trans (hb'.mono hb.size)
        go_roundw
        case rel => exact ⟨i, m, rfl, rfl, by omega, by omega, hb2, Inv.down tot_str hU.out hin (by omega) (cmpK_nneg hc)⟩
        case measure => simp [intOf]; omega
    · obtain rfl : i = j := by omega
      have HP : Place ltS l t i := ⟨hj, hin.1, hin.2⟩
      have HP' := Lib.hid HP
      clear HP hin
      by_cases hil : i < l.length
      · have hm1 : (i : Int) < l.length := by omega
        obtain ⟨b, o, rfl, hbw, hcl⟩ := hR.out.at_ (by omega)
        have c0' : wr.cell? ⟨b, o + i * 2, none⟩ = some (.string (l[i]'(by omega)).1) := (hb.cell (p := ⟨b, o + i * 2, none⟩) hbw).trans (hcl _ _ (flat2_fst kc vc l i (by omega)))
        have c1' : wr.cell? ⟨b, o + i * 2 + 1, none⟩ = some (.int .i64 (l[i]'(by omega)).2) := (hb.cell (p := ⟨b, o + i * 2 + 1, none⟩) hbw).trans (hcl _ _ (flat2_snd kc vc l i (by omega)))
        clear hcl
        go_wp2_with (go_at_call 44; refine (cmp1_any _ _ (l[i]'(by omega)).2 _).mono ?_; rintro e w' ⟨rfl, hb'⟩)
        have hb2 := hb.trans (hb'.mono hb.size)
        go_ret2
        exact ⟨i, _, rfl, hj, fun h => ⟨HP'.out, by omega, (cmpK_zero tot_str).1 (by simpa using h)⟩, fun h => ⟨HP'.out, fun _ h2 => by simp [(cmpK_zero tot_str).2 h2] at h⟩, hb2⟩
      · go_wp2_with fail
        go_ret2
        exact ⟨i, _, rfl, hj, fun h => (by simp at h), fun h => ⟨HP'.out, fun h2 => absurd h2 hil⟩, hb⟩

/-- what place answers -/
def PlPost (l : Ps) (t : ByteArray) (w : World) (e : Ending) (w' : World) : Prop :=
  ∃ i j : Nat, e = .returned (.tuple #[.int .i64 i, .int .i64 j]) ∧ i ≤ j ∧ j ≤ l.length ∧ ((FoundAt ltS l t i ∧ j = i + 1) ∨ (NoneAt ltS l t i ∧ j = i)) ∧ Below w.heap.size w w'
theorem place_any (l : Ps) (t : ByteArray) (A : Option Addr) (c : Nat) (w : World) (hn : l.length ≤ 1000) (hr : Rd w w.heap.size 2 A l.length c (flat l)) (hu : Up ltS l) :
    Calls Try.prog 28 #[.agg #[.slice A l.length c], .string t] w (PlPost l t w) := by
  have H := Lib.hid hu
  have HR := Lib.hid hr
  clear hu hr
  go_enter Try.func28, Try.ntmps28
  go_wp2_with (go_at_call 43; refine (bs_any l t _ _ _ hn ((HR.out.alloc (Nat.le_refl _) _).more (by simp)) H.out).mono ?_; rintro e w' ⟨i, f, rfl, hi, hf1, hf2, hb'⟩; cases f)
  · have hb2 : Below w.heap.size w w' := ((Below.refl _ _).alloc (Nat.le_refl _) _).trans (hb'.mono (by simp))
    go_ret2
    exact ⟨i, i, rfl, Nat.le_refl _, hi, .inr ⟨hf2 trivial, rfl⟩, hb2⟩
  · have hb2 : Below w.heap.size w w' := ((Below.refl _ _).alloc (Nat.le_refl _) _).trans (hb'.mono (by simp))
    have hi2 := (hf1 trivial).2.1
    go_ret2
    exact ⟨i, i + 1, rfl, by omega, hi2, .inl ⟨hf1 trivial, rfl⟩, hb2⟩

section
variable (l : Ps) (t : ByteArray) (A : Option Addr) (c : Nat) (w : World) (hn : l.length ≤ 1000) (hr : Rd w w.heap.size 2 A l.length c (flat l)) (hu : Up ltS l) (i : Nat)
include hn hr hu
theorem place_found (hf : FoundAt ltS l t i) :
    Calls Try.prog 28 #[.agg #[.slice A l.length c], .string t] w fun e w' => e = .returned (.tuple #[.int .i64 i, .int .i64 ((i : Int) + 1)]) ∧ Below w.heap.size w w' :=
  (place_any l t A c w hn hr hu).mono fun e w' ⟨i', j, he, _, _, hc, hb⟩ => by
    rcases hc with ⟨h1, rfl⟩ | ⟨h1, rfl⟩
    · obtain rfl := h1.uniq tot_str hu hf
      exact ⟨by rw [he]; simp, hb⟩
    · obtain ⟨p, hp, hpt⟩ := hf.mem
      exact absurd hpt (h1.all tot_str hu p hp)
theorem place_none (hf : NoneAt ltS l t i) :
    Calls Try.prog 28 #[.agg #[.slice A l.length c], .string t] w fun e w' => e = .returned (.tuple #[.int .i64 i, .int .i64 i]) ∧ Below w.heap.size w w' :=
  (place_any l t A c w hn hr hu).mono fun e w' ⟨i', j, he, _, _, hc, hb⟩ => by
    rcases hc with ⟨h1, rfl⟩ | ⟨h1, rfl⟩
    · obtain ⟨p, hp, hpt⟩ := h1.mem
      exact absurd hpt (hf.all tot_str hu p hp)
    · obtain rfl := h1.uniq hf
      exact ⟨he, hb⟩
end
end SortS
end Go.Proofs.Ytolfockpiioncaa
