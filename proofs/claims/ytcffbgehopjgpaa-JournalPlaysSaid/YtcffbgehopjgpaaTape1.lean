/- Layer 17: package tape: what only reads, and what is done at the fuse. -/
import Derived.Test.YtcffbgehopjgpaaTapeMem
import Derived.BigQuiet
namespace Go.Proofs.Ytcffbgehopjgpaa
open Go.ChangeShapes Go.WideShapes Go.ChangeAt Go.RowKit
namespace Tpe
open By
set_option maxRecDepth 100000
set_option maxHeartbeats 1000000
section
variable {w : World} {lo g n c : Nat} {s : S} {A : Option Addr} {fb : Bool} {ah : Int}
/-- modulo -/
theorem modulo_any (k : Int) (m q : Nat) (w : World) (hm : 1 ≤ m ∧ m ≤ 1000000) (_ : -9223372036854775808 ≤ k ∧ k ≤ 9223372036854775807) (hq : k % (m : Int) = q) :
    Calls Try.prog 37 #[.int .i64 k, .int .i64 m] w fun e w' => e = .returned (.int .i64 q) ∧ w = w' := by
  have hq2 : q < m := by have := Int.emod_lt_of_pos k (b := (m : Int)) (by omega); omega
  have hm0 : m ≠ 0 := by omega
  by_cases h : 0 ≤ k
  · have h1 : (k.tmod (m : Int)) = (q : Int) := by rw [Int.tmod_eq_emod_of_nonneg h]; exact hq
    have hw1 : IntKind.i64.wrap (q : Int) = (q : Int) := IntWalk.i64_in _ (by omega)
    go_enter Try.func37, Try.ntmps37
    go_wp2
    go_ret
    exact ⟨rfl, rfl⟩
  · obtain ⟨r, hr, hr2⟩ : ∃ r : Int, k.tmod (m : Int) = r ∧ ((r < 0 ∧ r + m = q) ∨ (r = 0 ∧ q = 0)) := by
      refine ⟨_, rfl, ?_⟩
      have h1 := Int.tmod_eq_emod (a := k) (b := (m : Int))
      have h3 := Int.emod_nonneg k (b := (m : Int)) (by omega)
      by_cases hd : (m : Int) ∣ k
      · rw [if_pos (.inr hd)] at h1
        have h2 : k % (m : Int) = 0 := Int.emod_eq_zero_of_dvd hd
        right
        omega
      · have h2 : ¬ (0 ≤ k ∨ (m : Int) ∣ k) := by rintro (h4 | h4); exact h h4; exact hd h4
        rw [if_neg h2] at h1
        left
        have h4 : ((m : Int).natAbs : Int) = m := by omega
        omega
    have hr3 : -1000000 ≤ r := by omega
    have hw1 : IntKind.i64.wrap r = r := IntWalk.i64_in _ (by omega)
    rcases hr2 with ⟨h1, h2⟩ | ⟨rfl, rfl⟩
    · have h3 : decide (r < 0) = true := decide_eq_true h1
      go_enter Try.func37, Try.ntmps37
      go_wp2
      go_ret
      exact ⟨by first | rfl | simp, rfl⟩
    · go_enter Try.func37, Try.ntmps37
      go_wp2
      go_ret
      exact ⟨by first | rfl | simp, rfl⟩
/-- check -/
theorem check_any (b : Bool) (w : World) (g : Nat) (h : w.cell? ⟨g, 5, none⟩ = some (.bool b)) :
    Calls Try.prog 36 #[.pointer (some ⟨g, 0, none⟩)] w fun e w' => e = .returned (.int .i64 (if b then 9 else 0)) ∧ w = w' := by
  cases b <;> (
    go_enter Try.func36, Try.ntmps36
    go_wp2
    go_ret
    exact ⟨rfl, rfl⟩)
theorem check_nil (w : World) :
    Calls Try.prog 36 #[.pointer none] w fun e w' => e = .returned (.int .i64 1) ∧ w = w' := by
  go_enter Try.func36, Try.ntmps36
  go_wp2
  go_ret
  exact ⟨rfl, rfl⟩
theorem safe_any (h : TpAt w lo g s A n c fb ah) :
    Calls Try.prog 28 #[.pointer (some ⟨g, 0, none⟩)] w fun e w' => e = .returned (.int .i64 s.sf) ∧ w = w' := by
  have c2 := h.c2
  clear h
  go_enter Try.func28, Try.ntmps28
  go_wp2
  go_ret
  exact ⟨rfl, rfl⟩
theorem len_any (h : TpAt w lo g s A n c fb ah) :
    Calls Try.prog 24 #[.pointer (some ⟨g, 0, none⟩)] w fun e w' => e = .returned (.int .i64 n) ∧ w = w' := by
  have c1 := h.c1
  clear h
  go_enter Try.func24, Try.ntmps24
  go_wp2
  go_ret
  exact ⟨rfl, rfl⟩
theorem lost_any (h : TpAt w lo g s A n c fb ah) :
    Calls Try.prog 39 #[.pointer (some ⟨g, 0, none⟩)] w fun e w' => e = .returned (.bool s.lo) ∧ w = w' := by
  have c5 := h.c5
  clear h
  go_enter Try.func39, Try.ntmps39
  go_wp2
  go_ret
  exact ⟨rfl, rfl⟩
/-- burn: no power is lost -/
theorem burn_ok {cap fu : Int} {bs : List UInt8} {sf : Nat} (h : TpAt w lo g ⟨cap, bs, sf, fu, false⟩ A n c fb ah) (hf : fu ≠ 0) (hr : fu ≤ 9223372036854775807) :
    Calls Try.prog 40 #[.pointer (some ⟨g, 0, none⟩)] w fun e w' => e = .returned (.int .i64 0) ∧ (∃ ah', TpAt w' lo g ⟨cap, bs, sf, less fu, false⟩ A n c fb ah') ∧ Two g none w w' := by
  have H := Lib.hid h
  have c0 := h.c0
  have c1 := h.c1
  have c2 := h.c2
  have c3 := h.c3
  have c4 := h.c4
  have c5 := h.c5
  have hfr := h.free
  dsimp only at c0 c2 c5
  rcases h.fuse with ⟨rfl, h1, rfl⟩ | ⟨rfl, h1, rfl⟩
  · dsimp only at h1
    have h0 : 0 < ah := by omega
    have m4 := hfr 4
    have hz : (ah == 0) = false := by simp; omega
    clear h
    go_enter Try.func40, Try.ntmps40
    go_wp2
    go_ret
    have hl : less ah = ah - 1 := by unfold less; rw [if_pos h0]
    rw [hl]
    have ht : Two g none w (w.setCell ⟨g, 4, none⟩ (.int .i64 (ah - 1))) := (Two.refl g none w).setCell 4 _
    exact ⟨rfl, ⟨ah - 1, by go_simp, by go_simp, by go_simp, by go_simp, by go_simp, by go_simp, fun j => by have := hfr j; go_simp, ⟨H.out.lo_.1, Nat.lt_of_lt_of_le H.out.lo_.2 ht.size⟩, H.out.own2 ht, H.out.ne, H.out.len, .inl ⟨rfl, by dsimp only; omega, rfl⟩⟩, ht⟩
  · dsimp only at h1
    subst h1
    clear h
    go_enter Try.func40, Try.ntmps40
    go_wp2
    go_ret
    exact ⟨rfl, ⟨0, H.out⟩, Two.refl _ _ _⟩
/-- burn: the power goes -/
theorem burn_lost {cap : Int} {bs : List UInt8} {sf : Nat} (h : TpAt w lo g ⟨cap, bs, sf, 0, false⟩ A n c fb ah) :
    Calls Try.prog 40 #[.pointer (some ⟨g, 0, none⟩)] w fun e w' => e = .returned (.int .i64 9) ∧ (∃ ah', TpAt w' lo g ⟨cap, bs, sf, 0, true⟩ A n c fb ah') ∧ Two g none w w' := by
  have H := Lib.hid h
  have c0 := h.c0
  have c1 := h.c1
  have c2 := h.c2
  have c3 := h.c3
  have c4 := h.c4
  have c5 := h.c5
  have hfr := h.free
  dsimp only at c0 c2 c5
  rcases h.fuse with ⟨rfl, h1, rfl⟩ | ⟨rfl, h1, rfl⟩
  · dsimp only at c4
    have m5 := hfr 5
    clear h
    go_enter Try.func40, Try.ntmps40
    go_wp2
    go_ret
    have ht : Two g none w (w.setCell ⟨g, 5, none⟩ (.bool true)) := (Two.refl g none w).setCell 5 _
    exact ⟨rfl, ⟨0, by go_simp, by go_simp, by go_simp, by go_simp, by go_simp, by go_simp, fun j => by have := hfr j; go_simp, ⟨H.out.lo_.1, Nat.lt_of_lt_of_le H.out.lo_.2 ht.size⟩, H.out.own2 ht, H.out.ne, H.out.len, .inl ⟨rfl, by dsimp only; omega, rfl⟩⟩, ht⟩
  · dsimp only at h1
    omega
end
/-- slices.Clone -/
theorem clone_any (n : Nat) (xs : List Value) (A : Option Addr) (c : Nat) (w : World) (hn : n ≤ 900000) (hr : Rd w w.heap.size 1 A n c xs) :
    Calls Try.prog 41 #[.slice A n c] w (NewRow 5 1 xs n w) := by
  have hR := Lib.hid hr
  obtain ⟨i0, hi0, hz0, hz1, hz2⟩ := info_parts8
  have heq := fun W => Lib.run_eql_slice_nil (P := Try.prog) W 23 5 A n c 0 0 Try.underlying23
  cases A with
  | none =>
    have hn0 : n = 0 := by
      rcases Nat.eq_zero_or_pos n with h | h
      · exact h
      · obtain ⟨_, _, h, _⟩ := hr.at_ h; cases h
    subst hn0
    have hx : xs = [] := List.eq_nil_of_length_eq_zero (by simpa using hr.len)
    subst hx
    clear hr
    go_enter Try.func41, Try.ntmps41
    go_wp2
    go_ret
    exact ⟨none, 0, rfl, ⟨World.ownsRow_nil _ _ _ _, by simp⟩, Below.refl _ _⟩
  | some a =>
    clear hr
    go_enter Try.func41, Try.ntmps41
    go_wp2_with (at_builtin; (obtain ⟨v1, w1, hrun, hown1, hg1, hat1⟩ := run_app (P := Try.prog) (w.alloc (.cells #[] 5)) w.heap.size 23 23 5 i0 _ 1 1 Try.underlying23 hi0 hz0 hz1 hz2 rfl (by omega) (World.ownsRow_made w #[] 0 (Nat.le_refl _) (by simp [maxLen]) rfl) (hR.out.alloc (Nat.le_refl _) _) (by omega) (by omega) (by simp)); refine Lib.wpList_append_run _ rfl _ _ _ _ rfl _ _ rfl rfl _ _ hrun ?_)
    go_ret
    obtain ⟨A', c', rfl, hrd⟩ := Own.of_row hown1 (by simpa using hR.out.one)
    refine ⟨A', c', by first | rfl | (rw [Nat.zero_add]; rfl), by simpa using hrd, ?_⟩
    exact ((Below.refl _ _).alloc (Nat.le_refl _) _).grown hg1 (by simp) (by simp [Value.ownBlock])
end Tpe
end Go.Proofs.Ytcffbgehopjgpaa
