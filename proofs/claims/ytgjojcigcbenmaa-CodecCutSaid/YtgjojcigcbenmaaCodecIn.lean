/- Package codec: an In, and what it gives back. -/
import Derived.Test.YtgjojcigcbenmaaSevens
import Derived.Test.YtgjojcigcbenmaaCodec2
namespace Go.Proofs.Ytgjojcigcbenmaa
open Go.RowKit
namespace Codec
/-- what 'number' answers -/
def NumberIs (bs : List UInt8) (w : World) (e : Ending) (w' : World) : Prop :=
  w = w' ∧ ((e = .returned (.tuple #[.int .u64 0, .int .i64 0]) ∧ ∀ u n, ¬ Begins bs u n) ∨ ∃ u n : Nat, e = .returned (.tuple #[.int .u64 u, .int .i64 n]) ∧ Begins bs u n)
set_option maxRecDepth 100000 in
set_option maxHeartbeats 400000 in
theorem number_any (bs : List UInt8) (n : Nat) (A : Option Addr) (c : Nat) (w : World) (hl : bs.length = n) (hn : n ≤ 900000) (hr : Rd w w.heap.size 1 A n c (u8s bs)) :
    Calls Try.prog 32 #[.slice A n c] w (NumberIs bs w) := by
  have HR := Lib.hid hr
  have HL := Lib.hid hl
  clear hr hl
  go_enter Try.func32, Try.ntmps32
  go_wp2
  go_loop [4, 9] (fun x q => ∃ i : Nat, q = .int .i64 i ∧ i ≤ n ∧ i ≤ 9 ∧ x = .int .u64 (val (bs.take i)) ∧ Hid (On bs i)) (fun _ q => (n - intOf q).toNat)
  case atStart => exact ⟨0, rfl, Nat.zero_le _, by omega, by simp [val], On.zero _⟩
  case round =>
    obtain ⟨i, rfl, hi, hi9, rfl, hon⟩ := hrel
    by_cases hlt : i < n
    · have hib : i < bs.length := by rw [HL.out]; exact hlt
      obtain ⟨b, o, rfl, hbw, hcl⟩ := HR.out.at_ (by omega)
      have k0 : w.cell? ⟨b, o + i, none⟩ = some (.int .u8 bs[i].toNat) := hcl i _ (u8s_get bs i hib)
      obtain ⟨x, hx⟩ : ∃ x, x = bs[i].toNat := ⟨_, rfl⟩
      rw [← hx] at k0
      have HX := Lib.hid hx
      have hx256 : x < 256 := by rw [hx]; exact bs[i].toNat_lt
      have hin : (i : Int) < n := by omega
      clear hx hcl
      obtain ⟨a, ha⟩ : ∃ a, a = val (bs.take i) := ⟨_, rfl⟩
      have HA := Lib.hid ha
      rw [← ha]
      clear ha
      by_cases h10 : i = 9 ∧ 1 < x
      · obtain ⟨rfl, h1x⟩ := h10
        have hno : Hid (∀ u n, ¬ Begins bs u n) := no_begins_ten hon hib (by rw [← HX.out]; exact h1x)
        have e1 : decide ((1 : Int) < x) = true := by simp; omega
        have e2 : decide (1 < x) = true := by simp; omega
        go_wp2
        go_ret2
        exact ⟨rfl, .inl ⟨rfl, hno.out⟩⟩
      · have h9 : ((i : Int) == 9) = false ∨ (i = 9 ∧ x ≤ 1) := by
          by_cases h : i = 9
          · exact .inr ⟨h, by omega⟩
          · exact .inl (by simp; omega)
        clear h10
        have hval : Hid (bits .or .u64 (a : Int) (IntKind.u64.wrap (IntKind.u64.wrap (bits .and .u8 (x : Int) 127) * 2 ^ (7 * i))) = ((val (bs.take (i + 1)) : Nat) : Int)) := by
          unfold Hid
          have h1 := val_lt (bs.take i)
          rw [List.length_take, Nat.min_eq_left (by omega)] at h1
          rw [or_step (by rw [HA.out]; exact h1) hx256 (by rcases h9 with h | h
                                                           · simp at h; omega
                                                           · exact .inr h), val_take_succ _ _ hib, HA.out, HX.out]
        have hv := hval.out
        by_cases hx128 : 128 ≤ x
        · have hon2 : Hid (On bs (i + 1)) := hon.step hib (by rw [← HX.out]; exact hx128)
          rcases h9 with h9 | ⟨h9, hx1⟩
          · have hi8 : i + 1 ≤ 9 := by simp at h9; omega
            go_wp2
            go_round
            case rel => exact ⟨i + 1, by go_num, by omega, hi8, rfl, hon2⟩
            case measure => simp [intOf]; omega
          · omega
        · by_cases hx0 : x = 0 ∧ 0 < i
          · obtain ⟨rfl, hi0⟩ := hx0
            have hno : Hid (∀ u n, ¬ Begins bs u n) := no_begins_zero hon hib HX.out.symm hi0
            have hi0' : (0 : Int) < i := by omega
            rcases h9 with h9 | ⟨h9, hx1⟩
            · go_wp2
              go_ret2
              exact ⟨rfl, .inl ⟨rfl, hno.out⟩⟩
            · have h9e : ((i : Int) == 9) = true := by simp; omega
              clear h9
              go_wp2
              go_ret2
              exact ⟨rfl, .inl ⟨rfl, hno.out⟩⟩
          · have hbe : Hid (Begins bs (val (bs.take (i + 1))) (i + 1)) := begins_at hon hib hi9 (by rw [← HX.out]; intro e; rcases h9 with h | h
                                                                                                    · simp at h; omega
                                                                                                    · exact h.2) (by rw [← HX.out]; omega) (by rw [← HX.out]; intro h e; exact hx0 ⟨e, h⟩)
            have hg : ((x : Int) == 0) = false ∨ (((x : Int) == 0) = true ∧ decide ((0 : Int) < i) = false ∧ decide (0 < i) = false ∧ ((i : Int) == 9) = false) := by
              by_cases h : x = 0
              · exact .inr ⟨by simp; omega, by simp; omega, by simp; omega, by simp; omega⟩
              · exact .inl (by simp; omega)
            have hh : ((i : Int) == 9) = false ∨ (((i : Int) == 9) = true ∧ decide ((1 : Int) < x) = false ∧ decide (1 < x) = false) := by
              rcases h9 with h | ⟨h, h'⟩
              · exact .inl h
              · exact .inr ⟨by simp; omega, by simp; omega, by simp; omega⟩
            clear hx0 h9
            rcases hg with hg | ⟨hg, hg1, hg2, hg3⟩
            · rcases hh with h9 | ⟨h9, hx1, hx2⟩
              all_goals
                go_wp2
                go_ret2
                exact ⟨rfl, .inr ⟨_, _, rfl, hbe.out⟩⟩
            · clear hh
              go_wp2
              go_ret2
              exact ⟨rfl, .inr ⟨_, _, rfl, hbe.out⟩⟩
    · have hno : Hid (∀ u n, ¬ Begins bs u n) := by
        have he : i = bs.length := by rw [HL.out]; omega
        rw [he] at hon
        exact no_begins_end hon
      go_wp2
      go_ret2
      exact ⟨rfl, .inl ⟨rfl, hno.out⟩⟩

/-- an In at block a: the bytes that are left; whether it is bad -/
structure InAt (w : World) (a : Nat) (bs : List UInt8) (bad : Bool) : Prop where
  at_ : ∃ A c, w.cell? ⟨a, 0, none⟩ = some (.slice A bs.length c) ∧ Rd w a 1 A bs.length c (u8s bs)
  bad_ : w.cell? ⟨a, 1, none⟩ = some (.bool bad)
  free0 : w.frozen? ⟨a, 0, none⟩ = false
  free1 : w.frozen? ⟨a, 1, none⟩ = false
  none_ : bad = true → bs = []
  small : bs.length ≤ 900000
theorem InAt.lt {w : World} {a : Nat} {bs : List UInt8} {bad : Bool} (h : InAt w a bs bad) : a < w.heap.size := World.block_lt_of_cell? w _ h.bad_
theorem InAt.below {w w' : World} {a : Nat} {bs : List UInt8} {bad : Bool} (h : InAt w a bs bad) (hb : Below w.heap.size w w') : InAt w' a bs bad := by
  obtain ⟨A, c, h1, h2⟩ := h.at_
  have hlt := h.lt
  exact ⟨⟨A, c, (hb.cell (p := ⟨a, 0, none⟩) hlt).trans h1, h2.keep fun p hp => hb.cell (by omega)⟩, (hb.cell (p := ⟨a, 1, none⟩) hlt).trans h.bad_, (hb.frozen (p := ⟨a, 0, none⟩) hlt).trans h.free0, (hb.frozen (p := ⟨a, 1, none⟩) hlt).trans h.free1, h.none_, h.small⟩
theorem InAt.keepx {w w' : World} {a : Nat} {bs : List UInt8} {bad : Bool} (h : InAt w a bs bad) (hb : ∀ k, k ≤ a → w'.heap[k]? = w.heap[k]?) : InAt w' a bs bad := by
  obtain ⟨A, c, h1, h2⟩ := h.at_
  have ha := hb a (Nat.le_refl _)
  exact ⟨⟨A, c, (World.cell?_of_block (a := ⟨a, 0, none⟩) ha).trans h1, h2.keep fun p hp => World.cell?_of_block (hb p.block (by omega))⟩, (World.cell?_of_block (a := ⟨a, 1, none⟩) ha).trans h.bad_, (World.frozen?_of_block (a := ⟨a, 0, none⟩) ha).trans h.free0, (World.frozen?_of_block (a := ⟨a, 1, none⟩) ha).trans h.free1, h.none_, h.small⟩
theorem InAt.drewN {w : World} {a : Nat} {bs : List UInt8} {bad : Bool} (h : InAt w a bs bad) (n : Nat) : InAt (w.drewN n) a bs bad := h.below (bel_drewN (Below.refl _ _) n)
theorem gb_trans {w w1 w2 : World} {r : Option Nat} (h : w.grownBy w1 r) (h2 : w1.grownBy w2 r) : w.grownBy w2 r :=
  ⟨h2.os.trans h.os, h2.tape.trans h.tape, h2.output.trans h.output, Nat.le_trans h.size h2.size, fun k hk hne => (h2.block k (Nat.lt_of_lt_of_le hk h.size) hne).trans (h.block k hk hne)⟩
theorem newin_any (bs : List UInt8) (n : Nat) (A : Option Addr) (c : Nat) (w : World) (hl : bs.length = n) (hn : n ≤ 900000) (hr : Rd w w.heap.size 1 A n c (u8s bs)) :
    Calls Try.prog 15 #[.slice A n c] w fun e w' => ∃ a, e = .returned (.pointer (some ⟨a, 0, none⟩)) ∧ w.heap.size ≤ a ∧ InAt w' a bs false ∧ Below w.heap.size w w' := by
  have HR := Lib.hid hr
  have HL := Lib.hid hl
  clear hr hl
  go_enter Try.func15, Try.ntmps15
  go_wp2_with (go_at_call 30; refine (clone_any _ _ _ _ _ hn HR.out).mono ?_; rintro e w1 ⟨A1, c1, rfl, ho, hb⟩)
  go_ret
  refine ⟨w1.heap.size, rfl, hb.size, ?_, hb.alloc hb.size _⟩
  refine ⟨⟨A1, c1, ?_, ?_⟩, by go_simp, by go_simp, by go_simp, by simp, by rw [HL.out]; exact hn⟩
  · rw [HL.out]; go_simp
  · rw [HL.out]; exact ho.rd.alloc (Nat.le_refl _) _
section
variable {a : Nat} {bs : List UInt8} {bad : Bool} {w : World}
theorem left_any (h : InAt w a bs bad) : Calls Try.prog 20 #[.pointer (some ⟨a, 0, none⟩)] w fun e w' => e = .returned (.int .i64 bs.length) ∧ w = w' := by
  obtain ⟨A, c, h1, h2⟩ := h.at_
  clear h h2
  go_enter Try.func20, Try.ntmps20
  go_wp2
  go_ret
  exact ⟨rfl, rfl⟩
theorem bad_any (h : InAt w a bs bad) : Calls Try.prog 21 #[.pointer (some ⟨a, 0, none⟩)] w fun e w' => e = .returned (.bool bad) ∧ w = w' := by
  have h1 := h.bad_
  clear h
  go_enter Try.func21, Try.ntmps21
  go_wp2
  go_ret
  exact ⟨rfl, rfl⟩
theorem done_any (h : InAt w a bs bad) : Calls Try.prog 22 #[.pointer (some ⟨a, 0, none⟩)] w fun e w' => e = .returned (.bool (!bad && bs.isEmpty)) ∧ w = w' := by
  obtain ⟨A, c, h1, h2⟩ := h.at_
  have h3 := h.bad_
  have h4 := h.none_
  have h5 : Hid (bs.isEmpty = ((bs.length : Int) == 0)) := by cases bs <;> simp [Hid]; omega
  clear h h2
  cases bad with
  | true =>
    clear h4
    go_enter Try.func22, Try.ntmps22
    go_wp2
    go_ret
    exact ⟨rfl, rfl⟩
  | false =>
    clear h4
    go_enter Try.func22, Try.ntmps22
    go_wp2
    go_ret
    rw [h5.out]
    exact ⟨rfl, rfl⟩
/-- an In that has become bad -/
def Failed (a : Nat) (w w' : World) : Prop := InAt w' a [] true ∧ w.grownBy w' (some a)
theorem failed (h : InAt w a bs bad) : Failed a w ((w.setCell ⟨a, 0, none⟩ (.slice none 0 0)).setCell ⟨a, 1, none⟩ (.bool true)) := by
  obtain ⟨A, c, h1, h2⟩ := h.at_
  have h3 := h.bad_
  have h4 := h.free0
  have h5 := h.free1
  exact ⟨⟨⟨none, 0, by go_simp, Rd.nil _⟩, by go_simp, by go_simp, by go_simp, fun _ => rfl, by simp⟩, gb_set (gb_set (gb_refl _ _) _ _) _ _⟩
theorem fail_any (h : InAt w a bs bad) : Calls Try.prog 26 #[.pointer (some ⟨a, 0, none⟩)] w fun e w' => e = .returned (.tuple #[]) ∧ Failed a w w' := by
  obtain ⟨A, c, h1, h2⟩ := h.at_
  have h3 := h.bad_
  have h4 := h.free0
  have h5 := h.free1
  have HF := Lib.hid (failed h)
  clear h h2
  go_enter Try.func26, Try.ntmps26
  go_wp2
  go_end0
  exact ⟨rfl, HF.out⟩
end
end Codec
end Go.Proofs.Ytgjojcigcbenmaa
