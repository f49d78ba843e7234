/- Trees: how many levels leaves need: the document's. -/
import Derived.Test.YtbfcbfadfnaebaaTreeUnder
namespace Go.Proofs.Ytbfcbfadfnaebaa
open Go.ChangeShapes Go.WideShapes Go.ChangeAt Go.RowKit
namespace Tr
open Sp Rw
/-- how many levels leaves need -/
def deepN (ls : List Lf) : Nat := (ls.map fun x => 1 + x.1.length).foldl max 0
theorem deepN_succ {ls : List Lf} {k : Nat} (h : k < ls.length) : deepN (ls.take (k + 1)) = max (deepN (ls.take k)) (1 + (ls[k]).1.length) := by
  unfold deepN
  rw [List.take_succ_eq_append_getElem h, List.map_append, List.foldl_append]
  rfl
theorem le_foldl : ∀ (l : List Nat) (m a : Nat), a ≤ l.foldl max m ↔ a ≤ m ∨ ∃ x ∈ l, a ≤ x
  | [], m, a => by simp
  | b :: l, m, a => by
    rw [List.foldl_cons, le_foldl l (max m b) a]
    constructor
    · rintro (h | ⟨x, h1, h2⟩)
      · rcases Nat.le_total m b with h3 | h3
        · rw [Nat.max_eq_right h3] at h; exact .inr ⟨b, List.mem_cons_self, h⟩
        · rw [Nat.max_eq_left h3] at h; exact .inl h
      · exact .inr ⟨x, List.mem_cons_of_mem _ h1, h2⟩
    · rintro (h | ⟨x, h1, h2⟩)
      · exact .inl (Nat.le_trans h (Nat.le_max_left _ _))
      · rcases List.mem_cons.1 h1 with rfl | h1
        · exact .inl (Nat.le_trans h2 (Nat.le_max_right _ _))
        · exact .inr ⟨x, h1, h2⟩
theorem le_deep (ls : List Lf) (a : Nat) : a ≤ deepN ls ↔ a = 0 ∨ ∃ x ∈ ls, a ≤ 1 + x.1.length := by
  unfold deepN
  rw [le_foldl]
  constructor
  · rintro (h | ⟨x, h1, h2⟩)
    · exact .inl (by omega)
    · obtain ⟨y, hy, rfl⟩ := List.mem_map.1 h1
      exact .inr ⟨y, hy, h2⟩
  · rintro (h | ⟨x, h1, h2⟩)
    · exact .inl (by omega)
    · exact .inr ⟨_, List.mem_map.2 ⟨x, h1, rfl⟩, h2⟩
/-- a right tree that isn't empty: its leaves need its levels -/
theorem deep_levels : ∀ {d : Nat} {t : T}, RightT d t → ¬ (t.es = [] ∧ t.ks = []) → deepN (leaves t) = levels t
  | d + 1, .mk es ks, h, hn => by
    have ih : ∀ k ∈ ks, deepN (leaves k.2) = levels k.2 := fun k hk => deep_levels (h.2.2.2 k hk).2.2 (h.2.2.2 k hk).2.1
    have key : ∀ a, a ≤ deepN (leaves (.mk es ks)) ↔ a ≤ levels (.mk es ks) := fun a => by
      rw [le_deep, levels_mk]
      unfold kmax
      rw [List.take_length]
      constructor
      · rintro (h1 | ⟨x, h1, h2⟩)
        · omega
        · rw [leaves_mk] at h1
          rcases List.mem_append.1 h1 with h1 | h1
          · obtain ⟨e, _, rfl⟩ := List.mem_map.1 h1
            simp at h2
            omega
          · obtain ⟨k, hk, h1⟩ := List.mem_flatMap.1 h1
            obtain ⟨y, hy, rfl⟩ := List.mem_map.1 h1
            have h3 : 1 + y.1.length ≤ levels k.2 := by rw [← ih k hk]; exact (le_deep _ _).2 (.inr ⟨y, hy, Nat.le_refl _⟩)
            have h4 : levels k.2 ≤ (ks.map fun k => levels k.2).foldl max 0 := (le_foldl _ _ _).2 (.inr ⟨_, List.mem_map.2 ⟨k, hk, rfl⟩, Nat.le_refl _⟩)
            simp at h2
            omega
      · intro h1
        rcases Nat.eq_zero_or_pos a with h0 | h0
        · exact .inl h0
        · refine .inr ?_
          by_cases hle : a ≤ 1
          · obtain ⟨x, hx⟩ := List.exists_mem_of_ne_nil _ (leaves_some h hn)
            exact ⟨x, hx, by omega⟩
          · have h2 : a - 1 ≤ (ks.map fun k => levels k.2).foldl max 0 := by omega
            rcases (le_foldl _ _ _).1 h2 with h3 | ⟨m, h3, h4⟩
            · omega
            · obtain ⟨k, hk, rfl⟩ := List.mem_map.1 h3
              rw [← ih k hk, le_deep] at h4
              rcases h4 with h4 | ⟨y, hy, h4⟩
              · omega
              · refine ⟨(k.1 :: y.1, y.2), ?_, ?_⟩
                · rw [leaves_mk]
                  exact List.mem_append_right _ (List.mem_flatMap.2 ⟨k, hk, List.mem_map.2 ⟨y, hy, rfl⟩⟩)
                · simp
                  omega
    have h1 := (key _).1 (Nat.le_refl _)
    have h2 := (key _).2 (Nat.le_refl _)
    omega
set_option maxRecDepth 100000 in
set_option maxHeartbeats 4000000 in
theorem deep_any (ls : List Lf) (n : Nat) (A : Option Addr) (c : Nat) (w : World) (hn : n ≤ 100000) (hm : ∀ x ∈ ls, x.1.length ≤ 100000) (h : LfRd w w.heap.size A n c ls) :
    Calls Try.prog 55 #[.slice A n c] w fun e w' => e = .returned (.int .i64 ((deepN ls : Nat) : Int)) ∧ w = w' := by
  have HL := Lib.hid h
  have HN := Lib.hid hn
  have HLN := Lib.hid h.1
  have HM := Lib.hid hm
  have hn5 : n ≤ 100000 := HN.out
  clear h hn hm
  go_enter Try.func55, Try.ntmps55
  go_wp2_with fail
  go_loopw [3, 7] (fun s i wr => ∃ (k : Nat), k ≤ n ∧ i = .int .i64 k ∧ s = .int .i64 ((deepN (ls.take k) : Nat) : Int) ∧ w = wr) (fun _ i _ => n - (intOf i).toNat)
  case atStart => exact ⟨0, by omega, by first | rfl | trivial, by first | rfl | trivial, by first | rfl | trivial⟩
  case round =>
    obtain ⟨k, hk, rfl, rfl, rfl⟩ := hrel
    by_cases hlt : k < n
    · have hkl : k < ls.length := by rw [HLN.out]; exact hlt
      obtain ⟨b, o, rfl, hb, hc⟩ := LfRd.at_ HL.out (by omega)
      obtain ⟨⟨Ap, np, cp⟩, c0, c1, c2, c3, c4, hpl, _⟩ := hc k hkl
      dsimp only at c0 hpl
      have hsuc := deepN_succ hkl
      rw [hpl] at hsuc
      have hnp5 : np ≤ 100000 := by rw [← hpl]; exact HM.out _ (List.getElem_mem hkl)
      obtain ⟨S, hS⟩ : ∃ S, S = deepN (ls.take k) := ⟨_, rfl⟩
      obtain ⟨S', hS'⟩ : ∃ S, S = deepN (ls.take (k + 1)) := ⟨_, rfl⟩
      rw [← hS, ← hS'] at hsuc
      rw [← hS]
      have hw : IntKind.i64.wrap (1 + (np : Int)) = ((1 + np : Nat) : Int) := by rw [IntKind.wrap_i64]; omega
      have hmax : max (S : Int) ((1 + np : Nat) : Int) = (S' : Int) := by omega
      have hmax2 : max (S : Int) (1 + (np : Int)) = (S' : Int) := by omega
      have HS' := Lib.hid hS'
      clear hS hS' hsuc hpl hc c1 c2 c3 c4
      go_wp2_with fail
      go_roundw
      case rel => exact ⟨k + 1, by omega, by go_num, by rw [HS'.out], by first | rfl | trivial⟩
      case measure => simp [intOf]; omega
    · obtain rfl : n = k := by omega
      rw [List.take_of_length_le (by rw [HLN.out]; omega)]
      go_wp2_with fail
      go_ret
      exact ⟨rfl, rfl⟩
end Tr
end Go.Proofs.Ytbfcbfadfnaebaa
