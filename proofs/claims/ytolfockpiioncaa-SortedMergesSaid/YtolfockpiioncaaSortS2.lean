/- Package sorted at string keys, on: Get, Len; slices.Clone, Grow, Concat at its pairs. -/
import Derived.Test.YtolfockpiioncaaSortS1
namespace Go.Proofs.Ytolfockpiioncaa
open Go.RowKit
namespace SortS
set_option maxRecDepth 100000 in
set_option maxHeartbeats 400000 in
theorem get_found (l : Ps) (t : ByteArray) (A : Option Addr) (c : Nat) (w : World) (hn : l.length ≤ 1000) (hr : Rd w w.heap.size 2 A l.length c (flat l)) (hu : Up ltS l) (i : Nat) (hf : FoundAt ltS l t i) (v : Int) (hv : ∀ h : i < l.length, l[i].2 = v) :
    Calls Try.prog 31 #[.agg #[.slice A l.length c], .string t] w fun e w' => e = .returned (.tuple #[.int .i64 v, .bool true]) ∧ Below w.heap.size w w' := by
  have hp := fun W hW => place_found l t A c W hn hW hu i hf
  obtain ⟨b, o, rfl, hbw, hcl⟩ := hr.at_ (by have := hf.2.1; omega)
  have c1 : w.cell? ⟨b, o + (i * 2 + 1), none⟩ = some (.int .i64 v) := by
    have := hcl _ _ (flat2_snd kc vc l i hf.2.1)
    rw [this, vc, hv]
  have hi : (i : Int) < l.length := by have := hf.2.1; omega
  have hR := Lib.hid hr
  have HP := Lib.hid hp
  clear hf hv hr hp hcl hu
  have e1 : ((i : Int) == (i : Int) + 1) = false := by simp; omega
  go_enter Try.func31, Try.ntmps31
  go_wp2_with (go_at_call 28; refine (HP.out _ ((hR.out.alloc (Nat.le_refl _) _).more (by simp))).mono ?_; rintro e w' ⟨rfl, hb'⟩; (have hbox : w'.cell? ⟨w.heap.size, 0, none⟩ = some (.slice (some ⟨b, o, none⟩) l.length c) := (hb'.cell (p := ⟨w.heap.size, 0, none⟩) (by simp)).trans (by go_simp)); (have hb2 : Below w.heap.size w w' := ((Below.refl _ _).alloc (Nat.le_refl _) _).trans (hb'.mono (by simp))); (have c1' : w'.cell? ⟨b, o + i * 2 + 1, none⟩ = some (.int .i64 v) := (hb2.cell (p := ⟨b, o + i * 2 + 1, none⟩) hbw).trans c1); clear hb')
  go_ret2
  exact ⟨rfl, hb2⟩
set_option maxRecDepth 100000 in
set_option maxHeartbeats 400000 in
theorem get_none (l : Ps) (t : ByteArray) (A : Option Addr) (c : Nat) (w : World) (hn : l.length ≤ 1000) (hr : Rd w w.heap.size 2 A l.length c (flat l)) (hu : Up ltS l) (i : Nat) (hf : NoneAt ltS l t i) :
    Calls Try.prog 31 #[.agg #[.slice A l.length c], .string t] w fun e w' => e = .returned (.tuple #[.int .i64 0, .bool false]) ∧ Below w.heap.size w w' := by
  have hp := fun W hW => place_none l t A c W hn hW hu i hf
  have hR := Lib.hid hr
  have HP := Lib.hid hp
  clear hf hr hp hu
  go_enter Try.func31, Try.ntmps31
  go_wp2_with (go_at_call 28; refine (HP.out _ ((hR.out.alloc (Nat.le_refl _) _).more (by simp))).mono ?_; rintro e w' ⟨rfl, hb'⟩; (have hb2 : Below w.heap.size w w' := ((Below.refl _ _).alloc (Nat.le_refl _) _).trans (hb'.mono (by simp))))
  go_ret2
  exact ⟨rfl, hb2⟩
theorem len_any (n c : Nat) (A : Option Addr) (w : World) :
    Calls Try.prog 26 #[.agg #[.slice A n c]] w fun e w' => e = .returned (.int .i64 n) ∧ Below w.heap.size w w' := by
  go_enter Try.func26, Try.ntmps26
  go_wp2
  go_ret
  exact ⟨rfl, (Below.refl _ _).alloc (Nat.le_refl _) _⟩

theorem info : (Try.prog.info? 60).map (fun i => (i.zero, i.size, i.bytes)) = some (some (.agg #[.string ByteArray.empty, .int .i64 0]), 2, 24) := by kernel_rfl

set_option maxRecDepth 100000 in
set_option maxHeartbeats 400000 in
theorem clone_any (n : Nat) (xs : List Value) (A : Option Addr) (c : Nat) (w : World) (hn : n ≤ 1000) (hr : Rd w w.heap.size 2 A n c xs) :
    Calls Try.prog 34 #[.slice A n c] w (NewRow 60 2 xs n w) := by
  have hR := Lib.hid hr
  obtain ⟨i0, hi0, hz0, hz1, hz2⟩ := info_parts info
  have heq := fun W => Lib.run_eql_slice_nil (P := Try.prog) W 24 60 A n c 0 0 Try.underlying24
  cases A with
  | none =>
    have hn0 : n = 0 := by
      rcases Nat.eq_zero_or_pos n with h | h
      · exact h
      · obtain ⟨_, _, h, _⟩ := hr.at_ h; cases h
    subst hn0
    have hx : xs = [] := List.eq_nil_of_length_eq_zero (by simpa using hr.len)
    subst hx
    clear hr
    go_enter Try.func34, Try.ntmps34
    go_wp2
    go_ret
    exact ⟨none, 0, rfl, ⟨World.ownsRow_nil _ _ _ _, by simp⟩, Below.refl _ _⟩
  | some a =>
    clear hr
    go_enter Try.func34, Try.ntmps34
    go_wp2_with (at_builtin; (obtain ⟨v1, w1, hrun, hown1, hg1, hat1⟩ := run_app (P := Try.prog) (w.alloc (.cells #[] 60)) w.heap.size 24 24 60 i0 _ 2 24 Try.underlying24 hi0 hz0 hz1 hz2 rfl (by omega) (World.ownsRow_made w #[] 0 (Nat.le_refl _) (by simp [maxLen]) rfl) (hR.out.alloc (Nat.le_refl _) _) (by omega) (by omega) (by simp)); refine Lib.wpList_append_run _ rfl _ _ _ _ rfl _ _ rfl rfl _ _ hrun ?_)
    go_ret
    obtain ⟨A', c', rfl, hrd⟩ := Own.of_row hown1 (by simpa using hR.out.one)
    refine ⟨A', c', by first | rfl | (rw [Nat.zero_add]; rfl), by simpa using hrd, ?_⟩
    exact ((Below.refl _ _).alloc (Nat.le_refl _) _).grown hg1 (by simp) (by simp [Value.ownBlock])

/-- an empty row of the call's own, or nil -/
def OwnEmpty (e : TypeId) (sz : Nat) (w : World) (en : Ending) (w' : World) : Prop :=
  ∃ v, en = .returned v ∧ w'.ownsRow w.heap.size e sz v 0 [] ∧ Below w.heap.size w w'
set_option maxRecDepth 100000 in
set_option maxHeartbeats 400000 in
theorem grow_any (n : Nat) (w : World) (hn : n ≤ 100000) :
    Calls Try.prog 45 #[.slice none 0 0, .int .i64 n] w (OwnEmpty 60 2 w) := by
  obtain ⟨i0, hi0, hz0, hz1, hz2⟩ := info_parts info
  rcases Nat.eq_zero_or_pos n with h0 | h0
  · subst h0
    go_enter Try.func45, Try.ntmps45
    go_wp2
    go_ret
    exact ⟨_, rfl, World.ownsRow_nil _ _ _ _, Below.refl _ _⟩
  · have hrun := fun W => Lib.run_append_nil_zeros (P := Try.prog) W 24 3 24 60 i0 _ .i64 .i64 Try.underlying24 Try.underlying3 hi0 hz0 n h0 (by omega) (by omega) (by rw [hz2]; omega)
    have HRun := Lib.hid hrun
    clear hrun
    go_enter Try.func45, Try.ntmps45
    go_wp2_with (at_builtin; refine Lib.wpList_append_run _ rfl _ _ _ _ rfl _ _ rfl rfl _ _ (HRun.out _) ?_)
    go_ret
    refine ⟨_, rfl, World.ownsRow_made w.drew _ _ (Nat.le_refl _) (grownCap_le_maxLen _ _ _ _ (by simp only [maxLen]; omega)) ?_, ((Below.refl _ _).drew).alloc (Nat.le_refl _) _⟩
    have hge := grownCap_ge w n 0 60
    simp only [Array.size_append, size_zeroCells]
    show n * 2 + _ * 2 = _ * 2
    omega

set_option maxRecDepth 100000 in
set_option maxHeartbeats 400000 in
theorem concat_any (ss : List Part) (S : Option Addr) (c : Nat) (w : World) (hS : Rd w w.heap.size 1 S ss.length c (ss.map Part.val)) (hss : ∀ p ∈ ss, Rd w w.heap.size 2 p.A p.n p.c p.xs)
    (ht : total ss ≤ 100000) (hl : ss.length ≤ 1000) :
    Calls Try.prog 29 #[.slice S ss.length c] w (NewRow 60 2 (cat ss) (total ss) w) := by
  obtain ⟨i0, hi0, hz0, hz1, hz2⟩ := info_parts info
  have HS := Lib.hid hS
  have HSS := Lib.hid hss
  clear hS hss
  have cellAt : Hid (∀ (w' : World) (i : Nat), Below w.heap.size w w' → ∀ h : i < ss.length, ∃ b o, S = some ⟨b, o, none⟩ ∧ w'.cell? ⟨b, o + i, none⟩ = some (.slice ss[i].A ss[i].n ss[i].c)) := by
    intro w' i hb h
    obtain ⟨b, o, e, hbb, hc⟩ := HS.out.at_ (by omega)
    exact ⟨b, o, e, (hb.cell (p := ⟨b, o + i, none⟩) hbb).trans (hc i _ (by simp [h, Part.val]))⟩
  go_enter Try.func29, Try.ntmps29
  go_wp2
  go_loop [3, 11] (fun sz i => ∃ k : Nat, k ≤ ss.length ∧ i = .int .i64 k ∧ sz = .int .i64 (total (ss.take k))) (fun _ i => ss.length - (intOf i).toNat)
  case atStart => exact ⟨0, Nat.zero_le _, rfl, rfl⟩
  case round =>
    obtain ⟨k, hk, rfl, rfl⟩ := hrel
    by_cases hlt : k < ss.length
    · obtain ⟨b, o, rfl, hc⟩ := cellAt.out w k (Below.refl _ _) hlt
      have ht1 := total_take ss k hlt
      have ht2 := total_le ss (k + 1)
      have ht3 : Hid (total (ss.take (k + 1)) = total (ss.take k) + ss[k].n) := ht1
      have hle : total (ss.take k) + ss[k].n ≤ 100000 := by omega
      have hki : (k : Int) < ss.length := by omega
      clear ht1 ht2
      go_wp2
      go_round
      case rel => exact ⟨k + 1, by omega, by go_num, by rw [ht3.out]; go_num⟩
      case measure => simp [intOf]; omega
    · obtain rfl : k = ss.length := by omega
      have htk : ss.take ss.length = ss := List.take_length
      rw [htk]
      clear htk
      go_wp2_with (go_at_call 45; refine (grow_any _ _ ht).mono ?_; rintro e w1 ⟨v, rfl, hown, hb1⟩)
      go_loopw [6, 27] (fun v i wr => ∃ k : Nat, k ≤ ss.length ∧ i = .int .i64 k ∧ wr.ownsRow w.heap.size 60 2 v (total (ss.take k)) (cat (ss.take k)) ∧ Below w.heap.size w wr) (fun _ i _ => ss.length - (intOf i).toNat)
      case atStart => exact ⟨0, Nat.zero_le _, rfl, hown, hb1⟩
      case round =>
        obtain ⟨k, hk, rfl, hown, hb⟩ := hrel
        by_cases hlt : k < ss.length
        · obtain ⟨b, o, rfl, hc⟩ := cellAt.out wr k hb hlt
          have ht1 := total_take ss k hlt
          have ht2 := total_le ss (k + 1)
          have ht3 : Hid (total (ss.take (k + 1)) = total (ss.take k) + ss[k].n ∧ cat (ss.take (k + 1)) = cat (ss.take k) ++ ss[k].xs) := ⟨ht1, cat_take ss k hlt⟩
          have hle : total (ss.take k) + ss[k].n ≤ 100000 := by omega
          have hki : (k : Int) < ss.length := by omega
          clear ht1 ht2
          obtain ⟨v2, w2, hrun, hown2, hg2, hat2⟩ := run_app (P := Try.prog) wr w.heap.size 24 24 60 i0 _ 2 24 Try.underlying24 hi0 hz0 hz1 hz2 rfl (by omega) hown ((HSS.out _ (List.getElem_mem hlt)).below hb) (by omega) (by omega) hb.size
          have hb2 : Below w.heap.size w w2 := hb.grown hg2 hb.size (fun q hq => (hown.lt q hq).1)
          have Hrun := Lib.hid hrun
          clear hrun
          go_wp2_with (at_builtin; refine Lib.wpList_append_run _ rfl _ _ _ _ rfl _ _ rfl rfl _ _ Hrun.out ?_)
          go_roundw
          case rel => exact ⟨k + 1, by omega, by go_num, by rw [ht3.out.1, ht3.out.2]; exact hown2, hb2⟩
          case measure => simp [intOf]; omega
        · obtain rfl : k = ss.length := by omega
          have htk : ss.take ss.length = ss := List.take_length
          rw [htk] at hown
          clear htk
          go_wp2
          go_ret
          obtain ⟨A', c', rfl, hrd⟩ := Own.of_row hown (by
            intro u hu
            obtain ⟨p, hp, hu⟩ := List.mem_flatMap.1 hu
            exact (HSS.out p hp).one u hu)
          exact ⟨A', c', rfl, hrd, hb⟩
end SortS
end Go.Proofs.Ytolfockpiioncaa
